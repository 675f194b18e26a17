/-
  The walk of the law MerkleCodes.
  Conditions: the tables of the round constants are as the text lays them.
-/
import Derived.Test.YtofccgkgjcnfbaaDoorZ
import Derived.Test.YtofccgkgjcnfbaaDoorCodL
import Derived.Test.YtofccgkgjcnfbaaDoorGRMath3CollEncWREncW
import Derived.Test.YtofccgkgjcnfbaaDoorModel2
import Derived.Test.YtofccgkgjcnfbaaDoorLives
set_option linter.unusedSimpArgs false
namespace Go.Proofs.YtofccgkgjcnfbaaDoor
open Go.RowKit Wr Sh
set_option linter.unusedVariables false
set_option maxRecDepth 100000
abbrev kLawK_0 : Oper := { dst := some 136, op := Op.buildSlice 47 1 #[(0, Operand.const (Value.string { data := #[97] }))], type := 47, pos := "law.go:172", after := #[], guard := none }
abbrev kLawK_1 : Oper := { dst := some 135, op := Op.call { callee := Callee.value (Operand.func 40), args := #[Operand.tmp 134], argTypes := #[22] }, type := 39, pos := "law.go:172", after := #[dD 15, dC 14], guard := none }
abbrev kLawK_2 : Oper := { dst := some 134, op := Op.buildSlice 22 2 #[(0, Operand.const (Value.int IntKind.i64 0)), (1, Operand.const (Value.int IntKind.i64 1))], type := 22, pos := "law.go:172", after := #[], guard := none }
abbrev kLawK_3 : Oper := { dst := some 133, op := Op.call { callee := Callee.builtin Builtin.append, args := #[Operand.tmp 130, Operand.tmp 132], argTypes := #[39, 39] }, type := 39, pos := "law.go:172", after := #[dD 11, dD 13, dC 13], guard := none }
abbrev kLawK_4 : Oper := { dst := some 132, op := Op.call { callee := Callee.value (Operand.func 41), args := #[Operand.tmp 131], argTypes := #[47] }, type := 39, pos := "law.go:172", after := #[dD 12, dC 11], guard := none }
abbrev kLawK_5 : Oper := { dst := some 131, op := Op.buildSlice 47 1 #[(0, Operand.const (Value.string { data := #[97] }))], type := 47, pos := "law.go:172", after := #[], guard := none }
abbrev kLawK_6 : Oper := { dst := some 130, op := Op.call { callee := Callee.value (Operand.func 40), args := #[Operand.tmp 129], argTypes := #[22] }, type := 39, pos := "law.go:172", after := #[dD 10, dC 8], guard := none }
abbrev kLawK_7 : Oper := { dst := some 129, op := Op.buildSlice 22 1 #[(0, Operand.tmp 128)], type := 22, pos := "law.go:172", after := #[dD 9], guard := none }
abbrev kLawK_8 : Oper := { dst := some 127, op := Op.call { callee := Callee.value (Operand.func 39), args := #[Operand.tmp 126, Operand.const (Value.int IntKind.i64 60)], argTypes := #[39, 3] }, type := 39, pos := "law.go:172", after := #[dD 7, dC 5], guard := none }
abbrev kLawK_9 : Oper := { dst := some 124, op := Op.call { callee := Callee.value (Operand.func 17), args := #[Operand.tmp 121, Operand.tmp 123], argTypes := #[3, 3] }, type := 3, pos := "law.go:172", after := #[dD 2, dD 4], guard := none }
abbrev kLawK_10 : Oper := { dst := some 125, op := Op.slice 39 (Operand.tmp 120) none (some (Operand.tmp 124)) none, type := 39, pos := "law.go:172", after := #[dD 1, dD 5], guard := none }
abbrev kLawK_11 : Oper := { dst := some 177, op := Op.unOp UnOp.not 4 (Operand.tmp 176), type := 4, pos := "law.go:176", after := #[dD 12, { on := 8, ground := Ground.guard }], guard := some (8, false) }
abbrev kLawK_12 : Oper := { dst := some 178, op := Op.pick (Operand.tmp 172) (Operand.const (Value.bool true)) (Operand.tmp 177), type := 4, pos := "law.go:176", after := #[dD 8, dD 13], guard := none }
abbrev kLawK_13 : Oper := { dst := some 179, op := Op.move (Operand.tmp 178), type := 4, pos := "law.go:176", after := #[dD 14, dC 12], guard := none }
abbrev kLawK_14 : Oper := { dst := some 180, op := Op.move (Operand.tmp 24), type := 3, pos := "law.go:176", after := #[{ on := 15, ground := Ground.guard }], guard := some (15, false) }
abbrev kLawK_15 : Oper := { dst := some 181, op := Op.binOp BinOp.eql 3 (Operand.tmp 180) (Operand.const (Value.int IntKind.i64 1)) 3, type := 4, pos := "law.go:176", after := #[dD 16, { on := 15, ground := Ground.guard }], guard := some (15, false) }
abbrev kLawK_16 : Oper := { dst := some 182, op := Op.move (Operand.tmp 181), type := 4, pos := "law.go:176", after := #[dD 17, dC 15, { on := 15, ground := Ground.guard }], guard := some (15, false) }
abbrev kLawK_17 : Oper := { dst := some 183, op := Op.move (Operand.tmp 27), type := 30, pos := "law.go:176", after := #[{ on := 18, ground := Ground.guard }], guard := some (18, true) }
abbrev kLawK_18 : Oper := { dst := some 184, op := Op.binOp BinOp.eql 30 (Operand.tmp 183) (Operand.const (Value.int IntKind.i64 0)) 30, type := 4, pos := "law.go:176", after := #[dD 19, { on := 18, ground := Ground.guard }], guard := some (18, true) }
abbrev kLawK_19 : Oper := { dst := some 185, op := Op.pick (Operand.tmp 182) (Operand.tmp 184) (Operand.const (Value.bool false)), type := 4, pos := "law.go:176", after := #[dD 18, dD 20, { on := 15, ground := Ground.guard }], guard := some (15, false) }
abbrev kLawK_20 : Oper := { dst := some 186, op := Op.pick (Operand.tmp 179) (Operand.const (Value.bool true)) (Operand.tmp 185), type := 4, pos := "law.go:176", after := #[dD 15, dD 21], guard := none }
theorem lc_below {g a b : Nat} {cs xs : List Value} {W W' : World} (h : Blk W g 50 xs ∧ ∀ q u, cs[q]? = some u → W.cell? ((⟨a, b, none⟩ : Addr).add q) = some u) (hb : Below W.heap.size W W') : Blk W' g 50 xs ∧ ∀ q u, cs[q]? = some u → W'.cell? ((⟨a, b, none⟩ : Addr).add q) = some u :=
 ⟨h.1.below hb h.1.lt, fun q u hu => (hb.cell (World.block_lt_of_cell? _ _ (h.2 q u hu))).trans (h.2 q u hu)⟩
theorem blk2_below {g k : Nat} {xs ys : List Value} {W W' : World} (h : Blk W g 50 xs ∧ Blk W k 54 ys) (hb : Below W.heap.size W W') : Blk W' g 50 xs ∧ Blk W' k 54 ys := ⟨h.1.below hb h.1.lt, h.2.below hb h.2.lt⟩
theorem encP_len (p : Pf) (n m : Nat) (hn : n = p.leaves.length) (hm : m = p.sides.length) (h1 : n ≤ 12) (h2 : m ≤ 12) (hk : ∀ x ∈ p.leaves, x.1.size ≤ 1000 ∧ x.2.size ≤ 1000) (h16 : ∀ d ∈ p.sides, d.length = 16) : (encP p).length ≤ 30000 := by
 have b1 := ints2_len p.first p.size
 have b2 := encStrs_len (ltx p.leaves) 1000 (ltx_small hk)
 have b3 := digs_len' p.sides h16
 rw [ltx_len, ← hn] at b2
 rw [← hm] at b3
 unfold encP
 rw [List.length_append, List.length_append]
 have : 2 * n * 1009 ≤ 2 * 12 * 1009 := Nat.mul_le_mul_right _ (by omega)
 omega
theorem ints1_len (a : Int) : (encInts [a]).length ≤ 27 := by
 unfold encInts encList
 rw [List.length_append]
 have h1 := (enc_le (([a] : List Int).length : Int)).2
 have h2 : (List.map enc [a]).flatten.length = (enc a).length := by simp
 have h3 := (enc_le a).2
 omega
theorem wpAny_hold {P : Program} {md : Region.Mode} {ops : Array Oper} {Q : Exit → Act → World → Prop} {fuel : Nat} {listed : Array Bool} {a : Act} {w : World}
  (h : ∀ G : Nat → Array Bool → Act → World → Prop, (∀ f l a w, wpAny P md ops Q f l a w → G f l a w) → (∀ f l a w, G f l a w → wpAny P md ops Q f l a w) → ∀ a0, a0 = a → G fuel listed a0 w) : wpAny P md ops Q fuel listed a w :=
 h (fun f l a w => wpAny P md ops Q f l a w) (fun _ _ _ _ h => h) (fun _ _ _ _ h => h) a rfl
theorem put_mk (t : Array Value) (d : _) (i : Nat) (v : Value) : Act.put (Act.mk t d) (some i) v = Act.mk (t.setIfInBounds i v) d := rfl
abbrev tt : Bool := true
theorem aN {P : Program} {md : Region.Mode} {ops : Array Oper} {Q : Exit → Act → World → Prop} {fuel : Nat} {listed : Array Bool} {a : Act} {w : World} : AllReady P md ops Q fuel listed a w [] := AllReady.nil
theorem aC {P : Program} {md : Region.Mode} {ops : Array Oper} {Q : Exit → Act → World → Prop} {fuel : Nat} {listed : Array Bool} {a : Act} {w : World} {i : Nat} {rs : List Nat} (o : Oper) (h : ∀ K' : Act → World → Prop, (∀ a w, wpAny P md ops Q fuel (listed.setIfInBounds i true) a w → K' a w) → Oper.wp P o a w K' Q) (hs : AllReady P md ops Q fuel listed a w rs)
  (ho : ops[i]? = some o := by rfl) (hw : Region.wanted o (yielded ops a.tmps) = true := by rfl) : AllReady P md ops Q fuel listed a w (i :: rs) := AllReady.cons ho (fun K hK => by rw [if_pos hw]; exact h K hK) hs
abbrev ff : Bool := false
theorem ev_ne (a : Act) (i j : Nat) (v : Value) (h : i ≠ j) : (a.put (some i) v).eval (.tmp j) = a.eval (.tmp j) := by
 show (a.tmps.setIfInBounds i v).getD j undef = a.tmps.getD j undef
 simp [Array.getD_eq_getD_getElem?, Array.getElem?_setIfInBounds, h]
theorem ev_eq (a : Act) (i : Nat) (v : Value) (h : i < a.tmps.size) : (a.put (some i) v).eval (.tmp i) = v := by
 show (a.tmps.setIfInBounds i v).getD i undef = v
 simp [Array.getD_eq_getD_getElem?, Array.getElem?_setIfInBounds, h]
theorem sz_put (a : Act) (i : Nat) (v : Value) : (a.put (some i) v).tmps.size = a.tmps.size := by
 show (a.tmps.setIfInBounds i v).size = _
 simp
theorem put_comm (a : Act) (i j : Nat) (u v : Value) (h : i ≠ j) : (a.put (some i) u).put (some j) v = (a.put (some j) v).put (some i) u := by
 show ({ a with tmps := (a.tmps.setIfInBounds i u).setIfInBounds j v } : Act) = { a with tmps := (a.tmps.setIfInBounds j v).setIfInBounds i u }
 rw [Array.setIfInBounds_comm _ _ h]
theorem pc (i j : Nat) (h : i ≠ j := by decide) {a : Act} {u v : Value} : (a.put (some i) u).put (some j) v = (a.put (some j) v).put (some i) u := put_comm a i j u v h
theorem wp_callK {P : Program} {o : Oper} {a : Act} {w : World} {K : Act → World → Prop} {Q : Exit → Act → World → Prop} (f : FuncId) (args : Array Value) (hrun : (execOp a.eval o).run P w = .ok (.enter f args) w)
  (hc : Calls P f args w fun e w' => ∃ v, e = .returned v ∧ K (a.put o.dst v) w') : o.wp P a w K Q := by
 unfold Oper.wp
 rw [hrun, Oper.upon_enter]
 refine hc.mono fun e w'' hh => ?_
 obtain ⟨v, rfl, hk⟩ := hh
 exact hk
theorem wp_callv {P : Program} {o : Oper} {a : Act} {w : World} {K : Act → World → Prop} {Q : Exit → Act → World → Prop} (f : FuncId) (args : Array Value) {args0 : Array Value} (hrun : (execOp a.eval o).run P w = .ok (.enter f args0) w) (he : args0 = args)
  (hc : Calls P f args w fun e w' => ∃ v, e = .returned v ∧ K (a.put o.dst v) w') : o.wp P a w K Q := wp_callK f args (he ▸ hrun) hc
theorem run_k17 (a : Act) (w : World) : (execOp a.eval { dst := some 124, op := Op.call { callee := Callee.value (Operand.func 17), args := #[Operand.tmp 121, Operand.tmp 123], argTypes := #[3, 3] }, type := 3, pos := "law.go:172", after := #[{ on := 2, ground := Ground.data }, { on := 4, ground := Ground.data }], guard := none }).run Tryd.prog w = .ok (.enter 17 #[a.eval (.tmp 121), a.eval (.tmp 123)]) w := by kernel_rfl
theorem run_k39 (a : Act) (w : World) : (execOp a.eval { dst := some 127, op := Op.call { callee := Callee.value (Operand.func 39), args := #[Operand.tmp 126, Operand.const (Value.int IntKind.i64 60)], argTypes := #[39, 3] }, type := 39, pos := "law.go:172", after := #[{ on := 7, ground := Ground.data }, { on := 5, ground := Ground.chain }], guard := none }).run Tryd.prog w = .ok (.enter 39 #[a.eval (.tmp 126), .int .i64 60]) w := by kernel_rfl
theorem run_k40_11 (a : Act) (w : World) : (execOp a.eval { dst := some 130, op := Op.call { callee := Callee.value (Operand.func 40), args := #[Operand.tmp 129], argTypes := #[22] }, type := 39, pos := "law.go:172", after := #[{ on := 10, ground := Ground.data }, { on := 8, ground := Ground.chain }], guard := none }).run Tryd.prog w = .ok (.enter 40 #[a.eval (.tmp 129)]) w := by kernel_rfl
theorem run_k40_16 (a : Act) (w : World) : (execOp a.eval { dst := some 135, op := Op.call { callee := Callee.value (Operand.func 40), args := #[Operand.tmp 134], argTypes := #[22] }, type := 39, pos := "law.go:172", after := #[{ on := 15, ground := Ground.data }, { on := 14, ground := Ground.chain }], guard := none }).run Tryd.prog w = .ok (.enter 40 #[a.eval (.tmp 134)]) w := by kernel_rfl
theorem run_k41_13 (a : Act) (w : World) : (execOp a.eval { dst := some 132, op := Op.call { callee := Callee.value (Operand.func 41), args := #[Operand.tmp 131], argTypes := #[47] }, type := 39, pos := "law.go:172", after := #[{ on := 12, ground := Ground.data }, { on := 11, ground := Ground.chain }], guard := none }).run Tryd.prog w = .ok (.enter 41 #[a.eval (.tmp 131)]) w := by kernel_rfl
theorem run_k41_18 (a : Act) (w : World) : (execOp a.eval { dst := some 137, op := Op.call { callee := Callee.value (Operand.func 41), args := #[Operand.tmp 136], argTypes := #[47] }, type := 39, pos := "law.go:172", after := #[{ on := 17, ground := Ground.data }, { on := 16, ground := Ground.chain }], guard := none }).run Tryd.prog w = .ok (.enter 41 #[a.eval (.tmp 136)]) w := by kernel_rfl
theorem exec_k6 (a : Act) (w : World) {A : Option Addr} {n c k : Nat} (h1 : a.eval (.tmp 120) = .slice A n c) (h2 : a.eval (.tmp 124) = .int .i64 (k : Int)) (hs : (Instr.sliceAt 39 (.slice A n c) none (some (.int .i64 (k : Int))) none).run Tryd.prog w = .ok (.slice A k c) w) :
  (execOp a.eval { dst := some 125, op := Op.slice 39 (Operand.tmp 120) none (some (Operand.tmp 124)) none, type := 39, pos := "law.go:172", after := #[{ on := 1, ground := Ground.data }, { on := 5, ground := Ground.data }], guard := none }).run Tryd.prog w = .ok (.value (.slice A k c)) w := by
 unfold execOp
 simp [h1, h2, hs]
theorem b22a : ∀ (W : World) (x : Int), (Instr.buildSlice 22 1 #[(0, .int .i64 x)]).run Tryd.prog W = .ok (.slice (some ⟨W.heap.size, 0, none⟩) 1 1) (W.alloc (.cells #[.int .i64 x] 3)) := by intros; kernel_rfl
theorem b22b : ∀ (W : World), (Instr.buildSlice 22 2 #[(0, .int .i64 0), (1, .int .i64 1)]).run Tryd.prog W = .ok (.slice (some ⟨W.heap.size, 0, none⟩) 2 2) (W.alloc (.cells #[.int .i64 0, .int .i64 1] 3)) := by intros; kernel_rfl
theorem b47a : ∀ (W : World), (Instr.buildSlice 47 1 #[(0, .string ⟨#[97]⟩)]).run Tryd.prog W = .ok (.slice (some ⟨W.heap.size, 0, none⟩) 1 1) (W.alloc (.cells #[.string ⟨#[97]⟩] 9)) := by intros; kernel_rfl
theorem al10 {W0 : World} {bn : Int} {C : Prop} {F X Y S : List UInt8} {n cs : Nat} {pf px pa ps : Bool} {Af A14 As : Option Addr} {v : Value} {o12 o15 o17 : Option Nat} {W : World} {a : Act} {K : Act → World → Prop} {Q : Exit → Act → World → Prop} (h : a.eval (.tmp 128) = .int .i64 bn) (T : TeS W0 bn C F X Y S n cs pf px pa ps Af v A14 As none o12 o15 o17 W) (hk : ∀ g W', Hid (TeS W0 bn C F X Y S n cs pf px pa ps Af v A14 As (some g) o12 o15 o17 W') → K (a.put (some 129) (.slice (some ⟨g, 0, none⟩) 1 1)) W') : Oper.wp Tryd.prog { dst := some 129, op := Op.buildSlice 22 1 #[(0, Operand.tmp 128)], type := 22, pos := "law.go:172", after := #[{ on := 9, ground := Ground.data }], guard := none } a W K Q := by
 refine wp_bs (vs := #[(0, .int .i64 bn)]) rfl (by simp [h]) (b22a W bn) ?_
 exact hk _ _ (Lh ((T.below ((Below.refl W.heap.size W).alloc (Nat.le_refl _) (.cells #[.int .i64 bn] 3))).p10 (Blk.new W 3 [.int .i64 bn])))
theorem al12 {W0 : World} {bn : Int} {C : Prop} {F X Y S : List UInt8} {n cs : Nat} {pf px pa ps : Bool} {Af A14 As : Option Addr} {v : Value} {o10 o15 o17 : Option Nat} {W : World} {a : Act} {K : Act → World → Prop} {Q : Exit → Act → World → Prop} (T : TeS W0 bn C F X Y S n cs pf px pa ps Af v A14 As o10 none o15 o17 W) (hk : ∀ g W', Hid (TeS W0 bn C F X Y S n cs pf px pa ps Af v A14 As o10 (some g) o15 o17 W') → K (a.put (some 131) (.slice (some ⟨g, 0, none⟩) 1 1)) W') : Oper.wp Tryd.prog { dst := some 131, op := Op.buildSlice 47 1 #[(0, Operand.const (Value.string { data := #[97] }))], type := 47, pos := "law.go:172", after := #[], guard := none } a W K Q := by
 refine wp_bs (vs := #[(0, .string ⟨#[97]⟩)]) rfl (by simp [Act.eval]) (b47a W) ?_
 exact hk _ _ (Lh ((T.below ((Below.refl W.heap.size W).alloc (Nat.le_refl _) (.cells #[.string ⟨#[97]⟩] 9))).p12 (Blk.new W 9 [.string ⟨#[97]⟩])))
theorem al15 {W0 : World} {bn : Int} {C : Prop} {F X Y S : List UInt8} {n cs : Nat} {pf px pa ps : Bool} {Af A14 As : Option Addr} {v : Value} {o10 o12 o17 : Option Nat} {W : World} {a : Act} {K : Act → World → Prop} {Q : Exit → Act → World → Prop} (T : TeS W0 bn C F X Y S n cs pf px pa ps Af v A14 As o10 o12 none o17 W) (hk : ∀ g W', Hid (TeS W0 bn C F X Y S n cs pf px pa ps Af v A14 As o10 o12 (some g) o17 W') → K (a.put (some 134) (.slice (some ⟨g, 0, none⟩) 2 2)) W') : Oper.wp Tryd.prog { dst := some 134, op := Op.buildSlice 22 2 #[(0, Operand.const (Value.int IntKind.i64 0)), (1, Operand.const (Value.int IntKind.i64 1))], type := 22, pos := "law.go:172", after := #[], guard := none } a W K Q := by
 refine wp_bs (vs := #[(0, .int .i64 0), (1, .int .i64 1)]) rfl (by simp [Act.eval]) (b22b W) ?_
 exact hk _ _ (Lh ((T.below ((Below.refl W.heap.size W).alloc (Nat.le_refl _) (.cells #[.int .i64 0, .int .i64 1] 3))).p15 (Blk.new W 3 [.int .i64 0, .int .i64 1])))
theorem al17 {W0 : World} {bn : Int} {C : Prop} {F X Y S : List UInt8} {n cs : Nat} {pf px pa ps : Bool} {Af A14 As : Option Addr} {v : Value} {o10 o12 o15 : Option Nat} {W : World} {a : Act} {K : Act → World → Prop} {Q : Exit → Act → World → Prop} (T : TeS W0 bn C F X Y S n cs pf px pa ps Af v A14 As o10 o12 o15 none W) (hk : ∀ g W', Hid (TeS W0 bn C F X Y S n cs pf px pa ps Af v A14 As o10 o12 o15 (some g) W') → K (a.put (some 136) (.slice (some ⟨g, 0, none⟩) 1 1)) W') : Oper.wp Tryd.prog { dst := some 136, op := Op.buildSlice 47 1 #[(0, Operand.const (Value.string { data := #[97] }))], type := 47, pos := "law.go:172", after := #[], guard := none } a W K Q := by
 refine wp_bs (vs := #[(0, .string ⟨#[97]⟩)]) rfl (by simp [Act.eval]) (b47a W) ?_
 exact hk _ _ (Lh ((T.below ((Below.refl W.heap.size W).alloc (Nat.le_refl _) (.cells #[.string ⟨#[97]⟩] 9))).p17 (Blk.new W 9 [.string ⟨#[97]⟩])))
theorem al5 {W : World} {a : Act} {K : Act → World → Prop} {Q : Exit → Act → World → Prop} {an : Int} {NE kk : Nat} (h1 : a.eval (.tmp 121) = .int .i64 an) (h2 : a.eval (.tmp 123) = .int .i64 (NE : Int)) (H : ∀ W : World, Calls Tryd.prog 17 #[.int .i64 an, .int .i64 (NE : Int)] W fun e w' => e = .returned (.int .i64 (kk : Int)) ∧ w' = W)
  (hk : K (a.put (some 124) (.int .i64 (kk : Int))) W) : Oper.wp Tryd.prog { dst := some 124, op := Op.call { callee := Callee.value (Operand.func 17), args := #[Operand.tmp 121, Operand.tmp 123], argTypes := #[3, 3] }, type := 3, pos := "law.go:172", after := #[{ on := 2, ground := Ground.data }, { on := 4, ground := Ground.data }], guard := none } a W K Q := by
 refine wp_callv 17 #[.int .i64 an, .int .i64 (NE : Int)] (run_k17 _ _) (by simp [h1, h2]) ?_
 refine (H _).mono ?_
 rintro e w1 ⟨rfl, rfl⟩
 exact ⟨_, rfl, hk⟩
theorem al8 {W0 W : World} {bn : Int} {R60 : List UInt8} {N60 NR c' : Nat} {A' : Option Addr} {o10 o12 o15 o17 : Option Nat} {a : Act} {K : Act → World → Prop} {Q : Exit → Act → World → Prop} (h : a.eval (.tmp 126) = .slice A' NR c') (T : TeS W0 bn True [] [] [] [] 0 0 false false false false none (.int .i64 0) none none o10 o12 o15 o17 W)
  (H : ∀ W : World, Below W0.heap.size W0 W → Calls Tryd.prog 39 #[.slice A' NR c', .int .i64 60] W fun e w' => ∃ v, e = .returned v ∧ w'.ownsRow W.heap.size 5 1 v N60 (B8 R60) ∧ Below W.heap.size W w')
  (hk : ∀ Af cf W', Hid (TeS W0 bn (N60 ≤ cf) R60 [] [] [] 0 0 true false false false Af (.int .i64 0) none none o10 o12 o15 o17 W') → K (a.put (some 127) (.slice Af N60 cf)) W') : Oper.wp Tryd.prog { dst := some 127, op := Op.call { callee := Callee.value (Operand.func 39), args := #[Operand.tmp 126, Operand.const (Value.int IntKind.i64 60)], argTypes := #[39, 3] }, type := 39, pos := "law.go:172", after := #[{ on := 7, ground := Ground.data }, { on := 5, ground := Ground.chain }], guard := none } a W K Q := by
 refine wp_callv 39 #[.slice A' NR c', .int .i64 60] (run_k39 _ _) (by simp [h]) ?_
 refine (H _ T.b).mono ?_
 rintro e w1 ⟨v, rfl, ho, hb⟩
 obtain ⟨Af, cf, rfl, hcap, hnil, hrd⟩ := own_form ho
 exact ⟨_, rfl, hk _ _ _ (Lh ((T.below hb).few hrd hcap))⟩
set_option maxHeartbeats 16000000 in
theorem codes_walk (A : Option Addr) (l : List Int) (c : Nat) (kn hw bn an : Int) (A' : Option Addr) (raw : List UInt8) (c' : Nat) (w : World) (hl : l.length ≤ 281474976710656) (hr : Rd w w.heap.size A (I64 l)) (ho : ∀ x ∈ l, okInt x) (hkn : okInt kn) (hhw : okInt hw) (hbn : okInt bn) (han : okInt an)
  (hraw : raw.length ≤ 281474976710656) (hrr : Rd w w.heap.size A' (B8 raw)) (hrc : raw.length ≤ c') (hrn : A' = none → c' = 0) (ht0 : Tab 0 w) (ht : Tab 1 w) :
  Calls Tryd.prog 6 #[.slice A l.length c, .int .i64 kn, .int .i64 hw, .int .i64 bn, .int .i64 an, .slice A' raw.length c'] w fun e w' => e = .returned (.bool true) ∧ Below w.heap.size w w' := by
 have HT := Lh ht
 have HT0 := Lh ht0
 have Hkn := Lh hkn
 have Hhw := Lh hhw
 have Hbn := Lh hbn
 have Han := Lh han
 obtain ⟨La, hLa⟩ : ∃ L, L = genL l := ⟨_, rfl⟩
 obtain ⟨N1, hN1⟩ : ∃ n, n = La.length := ⟨_, rfl⟩
 have HN1 := Lh (show N1 = La.length ∧ La.length ≤ 11 ∧ validE La = 0 from ⟨hN1, by rw [hLa]; exact genL_len l, by rw [hLa]; exact genL_valid l⟩)
 have HMa := Lh (show ∀ x ∈ La, x.1.size ≤ 3 ∧ x.2.size ≤ 3 from fun x hx => by rw [hLa] at hx; have := gls_sizes l _ x hx; omega)
 have HC0 := Lh (show Calls Tryd.prog 10 #[.slice A l.length c] w fun e w' => ∃ A1 c1, e = .returned (.slice A1 N1 c1) ∧ LsAt w' w'.heap.size A1 La c1 ∧ Below w.heap.size w w' from by
  refine (leaves_any A l c w hl hr ho).mono ?_
  rintro e w' ⟨A1, c1, rfl, h1, h2, h3, h4⟩
  rw [hN1, hLa]; exact ⟨A1, c1, rfl, ⟨h3, h1, h2, genL_ok l⟩, h4⟩)
 obtain ⟨R30, hR30⟩ : ∃ r, r = raw.take 30 := ⟨_, rfl⟩
 obtain ⟨R60, hR60⟩ : ∃ r, r = raw.take 60 := ⟨_, rfl⟩
 obtain ⟨N30, hN30⟩ : ∃ n, n = R30.length := ⟨_, rfl⟩
 obtain ⟨N60, hN60⟩ : ∃ n, n = R60.length := ⟨_, rfl⟩
 have h30 : N30 ≤ 30 := by rw [hN30, hR30, List.length_take]; omega
 have h60 : N60 ≤ 60 := by rw [hN60, hR60, List.length_take]; omega
 have HF30 := Lh (fun (W : World) (hb : Below w.heap.size w W) => show Calls Tryd.prog 39 #[.slice A' raw.length c', .int .i64 30] W fun e w' => ∃ v, e = .returned v ∧ w'.ownsRow W.heap.size 5 1 v N30 (B8 R30) ∧ Below W.heap.size W w' from by
  have := few39_any A' raw c' 30 W ((hrr.below hb).more hb.size) hrc hrn hraw (by decide)
  rw [← hR30, ← hN30] at this; exact this)
 have HF60 := Lh (fun (W : World) (hb : Below w.heap.size w W) => show Calls Tryd.prog 39 #[.slice A' raw.length c', .int .i64 60] W fun e w' => ∃ v, e = .returned v ∧ w'.ownsRow W.heap.size 5 1 v N60 (B8 R60) ∧ Below W.heap.size W w' from by
  have := few39_any A' raw c' 60 W ((hrr.below hb).more hb.size) hrc hrn hraw (by decide)
  rw [← hR60, ← hN60] at this; exact this)
 have HL30 := Lh hN30
 have HL60 := Lh (show N60 = R60.length ∧ N60 ≤ 1048576 from ⟨hN60, by omega⟩)
 obtain ⟨S1, hS1⟩ : ∃ s, s = encStrs (W1.bs [⟨#[97]⟩]) := ⟨_, rfl⟩
 obtain ⟨NS, hNS⟩ : ∃ n, n = S1.length := ⟨_, rfl⟩
 have hNS2 : NS ≤ 1000 := by rw [hNS, hS1]; decide +kernel
 obtain ⟨XX1, hXX1⟩ : ∃ s, s = encInts [bn] := ⟨_, rfl⟩
 obtain ⟨XX2, hXX2⟩ : ∃ s, s = encInts [0, 1] := ⟨_, rfl⟩
 obtain ⟨L1, hL1⟩ : ∃ n, n = XX1.length := ⟨_, rfl⟩
 obtain ⟨L2, hL2⟩ : ∃ n, n = XX2.length := ⟨_, rfl⟩
 have hl1 : L1 ≤ 27 := by rw [hL1, hXX1]; exact ints1_len bn
 have hl2 : L2 ≤ 27 := by rw [hL2, hXX2]; exact ints2_len 0 1
 have HI1 := Lh (fun (W : World) (A : Option Addr) (hr : Rd W W.heap.size A [.int .i64 bn]) => show Calls Tryd.prog 40 #[.slice A 1 1] W fun e w' => ∃ v', e = .returned v' ∧ w'.ownsRow W.heap.size 5 1 v' L1 (B8 XX1) ∧ Below W.heap.size W w' from by
  have := W1.ints_any A [bn] 1 W hr (by simp) (by simp) (by intro x hx; rw [List.mem_singleton] at hx; subst hx; exact Hbn.out)
  rw [← hXX1, ← hL1] at this; exact this)
 have HI2 := Lh (fun (W : World) (A : Option Addr) (hr : Rd W W.heap.size A [.int .i64 0, .int .i64 1]) => show Calls Tryd.prog 40 #[.slice A 2 2] W fun e w' => ∃ v', e = .returned v' ∧ w'.ownsRow W.heap.size 5 1 v' L2 (B8 XX2) ∧ Below W.heap.size W w' from by
  have := W1.ints_any A [0, 1] 2 W hr (by simp) (by simp) (by intro x hx; simp only [List.mem_cons, List.not_mem_nil, or_false] at hx; rcases hx with rfl | rfl <;> exact ⟨by decide, by decide⟩)
  rw [← hXX2, ← hL2] at this; exact this)
 have HST := Lh (fun (W : World) (A : Option Addr) (hr : Rd W W.heap.size A [.string ⟨#[97]⟩]) => show Calls Tryd.prog 41 #[.slice A 1 1] W fun e w' => ∃ v', e = .returned v' ∧ w'.ownsRow W.heap.size 5 1 v' NS (B8 S1) ∧ Below W.heap.size W w' from by
  have := W1.strings_any A [⟨#[97]⟩] 1 W hr (by simp) (by simp) (by rw [← hS1, ← hNS]; omega) (by intro x hx; rw [List.mem_singleton] at hx; subst hx; decide)
  rw [← hS1, ← hNS] at this; exact this)
 have HLS := Lh hNS.symm
 have HL14 := Lh (show L1 + NS = (XX1 ++ S1).length ∧ L1 + NS ≤ 1048576 from ⟨by rw [List.length_append, hL1, hNS], by omega⟩)
 have HL19 := Lh (show L2 + NS = (XX2 ++ S1).length ∧ L2 + NS ≤ 1048576 from ⟨by rw [List.length_append, hL2, hNS], by omega⟩)
 clear hl hr ho hkn hhw hbn han hraw hrr hrc hrn ht0 ht hLa hN1 hR30 hR60 hN30 hN60 hS1 hNS hXX1 hXX2 hL1 hL2
 generalize l.length = NA at HC0 ⊢
 generalize raw.length = NR at HF30 HF60 ⊢
 go_enter Tryd.func6, Tryd.ntmps6
 go_upto_region 2 with (go_at_call 10; refine HC0.out.mono ?_; rintro e w2 ⟨A1, c1, rfl, hls1, hb1⟩; have L1a := Lh hls1; have Bs2 := Lh hb1; clear hls1 hb1)
 have HKa := Lh (fun (n : Int) (hn : okInt n) (W : World) (hb : Below w2.heap.size w2 W) => show Calls Tryd.prog 20 #[.slice A1 N1 c1, .int .i64 n] W fun e w' => ∃ K, e = .returned (.string K) ∧ Below W.heap.size W w' from by
  rw [HN1.out.1]; exact lawKey_any A1 La c1 n W HN1.out.2.1 ((L1a.out.below hb).more hb.size).rd hn (fun x hx => (L1a.out.ok.2 x hx).1))
 have HPR := Lh (fun (K : ByteArray) (W : World) (hb : Below w2.heap.size w2 W) => rprove_pv La A1 c1 N1 3 K W HN1.out.1 HN1.out.2.1 HMa.out HN1.out.2.2 ((L1a.out.below hb).more hb.size) (HT0.out.below (Bs2.out.trans (hb.mono Bs2.out.size)) HT0.out.1))
 have K2 := Lh (Below.refl w2.heap.size w2)
 clear HC0 HMa
 go_wp2_with (go_at_call 20; with_reducible refine (HKa.out kn Hkn.out w2 K2.out).mono ?_; rintro e w6 ⟨KK, rfl, hb⟩; have B6 := Lh hb; clear hb)
 refine (HPR.out KK w6 B6.out).mono ?_; rintro e w7 ⟨p1, P1, Q1, n1, m1, d1, e1, rfl, hpv, hb⟩
 have V1 := Lh hpv
 have B7 := Lh (B6.out.trans (hb.mono B6.out.size))
 clear hpv hb
 obtain ⟨W8, hW_⟩ : ∃ W, W = (w7.alloc (.cells ZP.toArray 54)).setRow w7.heap.size (PR p1.first p1.size (.slice P1 n1 d1) (.slice Q1 m1 e1)).toArray := ⟨_, rfl⟩
 have hb_ : Below w7.heap.size w7 W8 := by rw [hW_]; exact belowRow ((Below.refl _ _).alloc (Nat.le_refl _) _) (Nat.le_refl _) _
 have HBX := Lh hb_
 have YX := Lh (show Blk W8 w7.heap.size 54 (PR p1.first p1.size (.slice P1 n1 d1) (.slice Q1 m1 e1)) by rw [hW_]; exact (Blk.new w7 54 ZP).row _)
 have HE := Lh hW_
 have hZ := hZP
 clear hW_ hb_
 go_upto_region 3 with (with_reducible refine wpList_store_row rfl 54 (.tmp 14) (.tmp 39) rfl w7.heap.size (PR p1.first p1.size (.slice P1 n1 d1) (.slice Q1 m1 e1)).toArray rfl rfl 54 _ (heap_alloc_new w7 _) (size54A _ _ _ _) (ZP_PR _ _ _ _) (PR_one _ _ _ _ _ _ _ _) ?_)
 rw [← HE.out]
 try dsimp only [Act.put]
 clear HE hZ
 have V1' := Lh (V1.out.next HBX.out)
 clear V1
 have V1 := V1'
 clear V1'
 have B8' := Lh (Bs2.out.trans ((B7.out.trans (HBX.out.mono B7.out.size)).mono Bs2.out.size))
 obtain ⟨g14, hg⟩ : ∃ g, g = w7.heap.size := ⟨_, rfl⟩
 rw [← hg] at YX ⊢
 have Y14 := YX
 clear hg YX HBX B6 B7 K2 HKa HPR
 go_cut [16] (fun s16 wx => ∃ gl, s16 = .slice (some ⟨gl, 0, none⟩) 4 4 ∧ Hid (ListC wx gl 4 12 5 ∧ Below W8.heap.size W8 wx))
 case first =>
  as_aux_lemma =>
   refine wp_region_held (S := fun W => Blk W g14 54 (PR p1.first p1.size (.slice P1 n1 d1) (.slice Q1 m1 e1))) (by kernel_rfl) ?_
   change wpAnyH _ _ _ _ _ _ _ _ (World.drew W8)
   have hs0 : Blk (World.drew W8) g14 54 (PR p1.first p1.size (.slice P1 n1 d1) (.slice Q1 m1 e1)) := Y14.out
   have U1 := Lh (V1.out.next (Below.refl W8.heap.size W8).drew)
   have DW := Lh ((Below.refl W8.heap.size W8).drew)
   generalize World.drew W8 = Wd at hs0 U1 DW ⊢
   refine tkH 0 ({ dst := some 41, op := Op.load 54 (Operand.tmp 14), type := 54, pos := "law.go:160", after := #[], guard := none }) (.agg (PR p1.first p1.size (.slice P1 n1 d1) (.slice Q1 m1 e1)).toArray) hs0 (fun W hW => exec_load_row _ _ 54 (.tmp 14) rfl ⟨g14, 0, none⟩ rfl (PR p1.first p1.size (.slice P1 n1 d1) (.slice Q1 m1 e1)) W (run_loadVar_at W _ 54 (PR p1.first p1.size (.slice P1 n1 d1) (.slice Q1 m1 e1)) _ (Blk.at hW) Tryd.underlying54 rfl (size54L _ _ _ _))) ?_
   try simp only [zp, zn, z1, z2, z3]
   refine tkH 1 ({ dst := some 42, op := Op.load 54 (Operand.tmp 14), type := 54, pos := "law.go:160", after := #[], guard := none }) (.agg (PR p1.first p1.size (.slice P1 n1 d1) (.slice Q1 m1 e1)).toArray) hs0 (fun W hW => exec_load_row _ _ 54 (.tmp 14) rfl ⟨g14, 0, none⟩ rfl (PR p1.first p1.size (.slice P1 n1 d1) (.slice Q1 m1 e1)) W (run_loadVar_at W _ 54 (PR p1.first p1.size (.slice P1 n1 d1) (.slice Q1 m1 e1)) _ (Blk.at hW) Tryd.underlying54 rfl (size54L _ _ _ _))) ?_
   try simp only [zp, zn, z1, z2, z3]
   refine tkH 2 ({ dst := some 43, op := Op.move (Operand.tmp 2), type := 3, pos := "law.go:160", after := #[], guard := none }) (.int .i64 hw) hs0 (fun W hW => ?y3) ?_
   case y3 => go_simp
   try simp only [zp, zn, z1, z2, z3]
   refine tkH 3 ({ dst := some 44, op := Op.move (Operand.tmp 3), type := 3, pos := "law.go:160", after := #[], guard := none }) (.int .i64 bn) hs0 (fun W hW => ?y4) ?_
   case y4 => go_simp
   try simp only [zp, zn, z1, z2, z3]
   refine tkH 5 ({ dst := some 46, op := Op.build 54 #[], type := 54, pos := "law.go:160", after := #[], guard := none }) (.agg ZP.toArray) hs0 (fun W hW => by go_simp; first | done | rfl) ?_
   try simp only [zp, zn, z1, z2, z3]
   refine tkH 6 ({ dst := some 47, op := Op.move (Operand.tmp 3), type := 3, pos := "law.go:160", after := #[], guard := none }) (.int .i64 bn) hs0 (fun W hW => ?y6) ?_
   case y6 => go_simp
   try simp only [zp, zn, z1, z2, z3]
   refine tkH 7 ({ dst := some 48, op := Op.move (Operand.tmp 2), type := 3, pos := "law.go:160", after := #[], guard := none }) (.int .i64 hw) hs0 (fun W hW => ?y7) ?_
   case y7 => go_simp
   try simp only [zp, zn, z1, z2, z3]
   refine tkH 8 ({ dst := some 49, op := Op.build 54 #[(0, Operand.tmp 47), (1, Operand.tmp 48)], type := 54, pos := "law.go:160", after := #[dD 6, dD 7], guard := none }) (.agg (PR bn hw (.slice none 0 0) (.slice none 0 0)).toArray) hs0 (fun W hW => by go_simp; first | done | rfl) ?_
   try simp only [zp, zn, z1, z2, z3]
   refine wpAnyH_ready (rs := [4]) (by kernel_rfl) (by simp) ?_
   refine AllReadyH.cons (o := { dst := some 45, op := Op.call { callee := Callee.value (Operand.func 28), args := #[Operand.tmp 42, Operand.tmp 43, Operand.tmp 44], argTypes := #[54, 3, 3] }, type := 54, pos := "law.go:160", after := #[dD 1, dD 2, dD 3], guard := none }) rfl (fun K hK => ?_) AllReadyH.nil
   rw [if_pos (by rfl)]
   have HCC := bent_all hw bn p1 P1 Q1 n1 m1 d1 e1 11 3 Wd U1.out (by decide) (by decide) Hhw.out Hbn.out
   go_simp
   refine HCC.mono ?_; rintro e w40 ⟨p2, P2, Q2, n2, m2, d2, e2, rfl, hpv, hbt⟩
   clear HCC
   have k40 := Lh hbt
   have hs40 := hs0.below hbt hs0.lt
   have V1x := Lh (U1.out.next hbt)
   have V2x := Lh hpv
   clear hpv hbt
   go_wp2_with fail
   refine hK.out _ _ hs40 (fun _ => ?_)
   clear hK K
   try simp only [zp, zn, z1, z2, z3]
   refine wpAnyH_ready (rs := [9]) (by kernel_rfl) (by simp) ?_
   refine AllReadyH.cons (o := { dst := some 50, op := Op.buildSlice 63 4 #[(0, Operand.tmp 41), (1, Operand.tmp 45), (2, Operand.tmp 46), (3, Operand.tmp 49)], type := 63, pos := "law.go:160", after := #[dD 0, dD 4, dD 5, dD 8], guard := none }) rfl (fun K hK => ?_) AllReadyH.nil
   rw [if_pos (by rfl)]
   have hbs := build63c w40 p1.first p1.size p2.first p2.size bn hw (.slice P1 n1 d1) (.slice Q1 m1 e1) (.slice P2 n2 d2) (.slice Q2 m2 e2)
   have hbt := (Below.refl w40.heap.size w40).alloc (Nat.le_refl _) (.cells [(PR p1.first p1.size (.slice P1 n1 d1) (.slice Q1 m1 e1)), (PR p2.first p2.size (.slice P2 n2 d2) (.slice Q2 m2 e2)), ZP, PR bn hw (.slice none 0 0) (.slice none 0 0)].flatten.toArray 54)
   have k41 := Lh (k40.out.trans (hbt.mono k40.out.size))
   have hs41 := hs40.below hbt hs40.lt
   have LP := Lh (listC4 (N := 12) (M := 5) (Blk.new w40 54 [(PR p1.first p1.size (.slice P1 n1 d1) (.slice Q1 m1 e1)), (PR p2.first p2.size (.slice P2 n2 d2) (.slice Q2 m2 e2)), ZP, PR bn hw (.slice none 0 0) (.slice none 0 0)].flatten) ((V1x.out.next hbt).wide (by decide) (by decide)) (V2x.out.next hbt) Hbn.out Hhw.out)
   clear hbt
   refine wp_bs rfl (by simp only [List.map_toArray, List.map_cons, List.map_nil]; rfl) hbs ?_
   clear hbs
   refine hK.out _ _ hs41 (fun _ => ?_)
   clear hK K
   try simp only [zp, zn, z1, z2, z3]
   refine tkH 10 ({ dst := some 16, op := Op.assign (Operand.tmp 50), type := 63, pos := "law.go:160", after := #[dD 9, dC 4, dP 0, dP 1, dP 2, dP 3, dP 4, dP 5, dP 6, dP 7, dP 8, dP 9], guard := none }) (.slice (some ⟨w40.heap.size, 0, none⟩) 4 4) hs41 (fun W hW => ?y9) ?_
   case y9 => go_simp
   try simp only [zp, zn, z1, z2, z3]
   refine wpAnyH_done (by kernel_rfl) ?_ _
   try simp only [zp, zn, z1, z2, z3]
   go_wp2_with fail
   go_meet
   exact ⟨w40.heap.size, rfl, Lh ⟨LP.out, DW.out.trans (k41.out.mono DW.out.size)⟩⟩
 case rest =>
 obtain ⟨gl, rfl, KE⟩ := hcut
 obtain ⟨W9, hw9⟩ : ∃ W, W = wc := ⟨_, rfl⟩
 rw [← hw9] at KE ⊢
 have LP := Lh KE.out.1
 have Bs9 := Lh (B8'.out.trans (KE.out.2.mono B8'.out.size))
 clear KE hw9 V1 Y14 B8' Bs2 L1a HN1 Hkn Hhw
 go_wp2_with fail
 go_loopw [17] (fun s17 wr => ∃ i : Nat, i ≤ 4 ∧ s17 = .int .i64 i ∧ Hid (Below W9.heap.size W9 wr)) (fun s17 _ => 4 - (intOf s17).toNat)
 case atStart => exact ⟨0, by omega, rfl, Lh (Below.refl _ _)⟩
 case round =>
 obtain ⟨i, hi4, rfl, HB⟩ := hrel
 by_cases hlt : i < 4
 ·
  obtain ⟨p, P1, P2, n, m, d1, d2, hcells, hpv⟩ := LP.out i hlt
  have hltI : (i : Int) < 4 := by omega
  obtain ⟨E, hE⟩ : ∃ E, E = encP p := ⟨_, rfl⟩
  obtain ⟨NE, hNE⟩ : ∃ n, n = E.length := ⟨_, rfl⟩
  have hNE2 : NE ≤ 30000 := by rw [hNE, hE]; exact encP_len p n m hpv.hn hpv.hm hpv.ln hpv.lm (fun x hx => by have := hpv.sz x hx; omega) hpv.at_.oks.2
  have hNE1 : 0 < NE := by rw [hNE, hE]; exact encP_pos p
  have hokp : OkP p := ⟨hpv.at_.oki.1, hpv.at_.oki.2, hpv.at_.okl.1, fun x hx => by have := hpv.sz x hx; omega, hpv.at_.oks.1, hpv.at_.oks.2⟩
  have HPV := Lh hpv
  have HCL := Lh hcells
  have HPW := Lh (fun (W : World) (hb : Below W9.heap.size W9 W) => HPV.out.next hb)
  have HCW := Lh (fun (W : World) (hb : Below W9.heap.size W9 W) => show ∀ q u, (PR p.first p.size (.slice P1 n d1) (.slice P2 m d2))[q]? = some u → W.cell? ((⟨gl, i * 4, none⟩ : Addr).add q) = some u from fun q u hu => (hb.cell (World.block_lt_of_cell? _ _ (HCL.out q u hu))).trans (HCL.out q u hu))
  have hsz : ∀ x ∈ p.leaves, x.1.size ≤ 1000 ∧ x.2.size ≤ 1000 := fun x hx => by have := hpv.sz x hx; omega
  have hn12 := hpv.ln
  have hm12 := hpv.lm
  have HPF := Lh (fun (W : World) (hb : Below W9.heap.size W9 W) => show Calls Tryd.prog 30 #[.agg (PR p.first p.size (.slice P1 n d1) (.slice P2 m d2)).toArray] W fun e w' => ∃ A' c', e = .returned (.agg (PR p.first p.size (.slice A' n c') (.slice P2 m d2)).toArray) ∧ PfAt w' w'.heap.size p A' P2 c' d2 ∧ Below W.heap.size W w' from pfOf_any p P1 P2 n m d1 d2 W HPV.out.hn HPV.out.hm (HPW.out W hb).at_)
  have HENC := Lh (fun (W : World) (A9 : Option Addr) (c9 : Nat) (hp : PfAt W W.heap.size p A9 P2 c9 d2) => show Calls Tryd.prog 35 #[.agg (PR p.first p.size (.slice A9 n c9) (.slice P2 m d2)).toArray] W fun e w' => ∃ v', e = .returned v' ∧ w'.ownsRow W.heap.size 5 1 v' NE (B8 E) ∧ Below W.heap.size W w' from by
   have := encode_any p A9 P2 n m c9 d2 W HPV.out.hn HPV.out.hm (by omega) (by omega) hsz hp
   rw [← hE, ← hNE] at this; exact this)
  have HREN := Lh (fun (W : World) (hb : Below W9.heap.size W9 W) => show Calls Tryd.prog 37 #[.agg (PR p.first p.size (.slice P1 n d1) (.slice P2 m d2)).toArray] W fun e w' => ∃ v', e = .returned v' ∧ w'.ownsRow W.heap.size 5 1 v' NE (B8 E) ∧ Below W.heap.size W w' from by
   have := rencode_any p P1 P2 n m d1 d2 W HPV.out.hn HPV.out.hm (by omega) (by omega) hsz (HPW.out W hb).at_
   rw [← hE, ← hNE] at this; exact this)
  have HSMB := Lh (fun (W : World) (A1 A2 : Option Addr) (c1 c2 : Nat) (h1 : Rd W W.heap.size A1 (B8 E)) (h2 : Rd W W.heap.size A2 (B8 E)) => show Calls Tryd.prog 36 #[.slice A1 NE c1, .slice A2 NE c2] W fun e w' => e = .returned (.bool true) ∧ Below W.heap.size W w' from by
   have := W1.same_any A1 A2 E E c1 c2 W W.heap.size h1 h2 (by omega) (by omega)
   rw [← hNE] at this
   refine this.mono ?_
   rintro e w' ⟨rfl, q, rfl⟩
   exact ⟨by simp, below_drewN (Below.refl _ _) q⟩)
  have HD1 := Lh (fun (W : World) (A : Option Addr) (c : Nat) (h : Rd W W.heap.size A (B8 (E ++ R30))) (hc : NE + N30 ≤ c) => show Calls Tryd.prog 38 #[.slice A (NE + N30) c] W fun e w' => ∃ X1 X2 x1 x2, e = .returned (.tuple #[.agg (PR p.first p.size (.slice X1 n x1) (.slice X2 m x2)).toArray, .int .i64 (NE : Int), .int .i64 0]) ∧ PV w' w'.heap.size 12 5 p X1 X2 n m x1 x2 ∧ Below W.heap.size W w' from by
   have hlen : (E ++ R30).length = NE + N30 := by rw [List.length_append, ← hNE, ← HL30.out]
   have := decode_any A (E ++ R30) c W h (by rw [hlen]; exact hc) (by rw [hlen]; omega)
   rw [hE, decP_enc p R30 hokp, ← hE, hlen, ← hNE] at this
   refine this.mono ?_
   rintro e w' ⟨v, rfl, h1, h2⟩
   obtain ⟨X1, X2, n', m', x1, x2, rfl, hx⟩ := pv_dec (M := 12) ⟨by rw [← HPV.out.hn]; exact hn12, by rw [← HPV.out.hm]; exact hm12, fun x hx => by have := HPV.out.sz x hx; omega, hpv.at_.oki⟩ (by decide) h1
   have e1 : n' = n := by rw [hx.hn, HPV.out.hn]
   have e2 : m' = m := by rw [hx.hm, HPV.out.hm]
   subst e1 e2
   exact ⟨X1, X2, x1, x2, rfl, ⟨hx.at_, hx.hn, hx.hm, hx.ln, hx.lm, HPV.out.sz⟩, h2⟩)
  obtain ⟨kk, hkk⟩ : ∃ k : Nat, k = (ar an (NE : Int)).toNat := ⟨_, rfl⟩
  have hab := ar_bounds an (NE : Int) (by omega)
  have hkI : ar an (NE : Int) = (kk : Int) := by omega
  have hkN : kk < NE := by omega
  have HAR := Lh (fun (W : World) => show Calls Tryd.prog 17 #[.int .i64 an, .int .i64 (NE : Int)] W fun e w' => e = .returned (.int .i64 (kk : Int)) ∧ w' = W from by
   rw [← hkI]; exact around_any an (NE : Int) Han.out.1 (by have := Han.out.2; omega) (by omega) (by omega) W)
  have HKN := Lh (show kk = (E.take kk).length ∧ kk ≤ 1048576 from ⟨by rw [List.length_take, ← hNE]; omega, by omega⟩)
  have HCUT := Lh (show (decP (E.take kk)).2.2 ≠ 0 from by rw [hE]; exact decP_cut p kk hokp (by rw [← hE, ← hNE]; exact hkN))
  have hNEI : 0 < (NE : Int) := by omega
  have hNEz : ((NE : Int) == 0) = false := by rw [beq_eq_false_iff_ne]; omega
  have hkNI : (kk : Int) < (NE : Int) := by omega
  have HEN := Lh hNE
  clear hE hNE hpv hcells hkk hab hkI hsz hokp
  go_upto_region 8 with (first
   | (have HC7 := HCW.out wr HB.out; refine wpList_load_at rfl 54 (.tmp 59) rfl ⟨gl, i * 4, none⟩ rfl (PR p.first p.size (.slice P1 n d1) (.slice P2 m d2)) _ HC7 Tryd.underlying54 rfl (size54L _ _ _ _) ?_; clear HC7)
   | (go_at_call 30; refine (HPF.out wr HB.out).mono ?_; rintro e w20 ⟨A9, c9, rfl, hpa, hb⟩; have O9 := Lh hpa; have K20 := Lh (HB.out.trans (hb.mono HB.out.size)); clear hpa hb)
   | (go_at_call 35; refine (HENC.out w20 A9 c9 O9.out).mono ?_; rintro e w21 ⟨vb, rfl, ho, hb⟩; obtain ⟨Ab, cb, rfl, hcb, hnb, hrb⟩ := own_form ho; have K21 := Lh (K20.out.trans (hb.mono K20.out.size)); have RB21 := Lh hrb; have HNB := Lh (And.intro hcb hnb); clear ho hb hrb hcb hnb))
  go_upto_region 10 with (first
   | (have HC7 := HCW.out w21 K21.out; refine wpList_load_at rfl 54 (.tmp 66) rfl ⟨gl, i * 4, none⟩ rfl (PR p.first p.size (.slice P1 n d1) (.slice P2 m d2)) _ HC7 Tryd.underlying54 rfl (size54L _ _ _ _) ?_; clear HC7)
   | (go_at_call 37; refine (HREN.out w21 K21.out).mono ?_; rintro e w22 ⟨vb, rfl, ho, hb⟩; obtain ⟨Ab2, cb2, rfl, _, _, hrb⟩ := own_form ho; have K22 := Lh (K21.out.trans (hb.mono K21.out.size)); have RB22 := Lh ((RB21.out.below hb).more hb.size); have RC22 := Lh hrb; clear ho hb hrb)
   | (go_at_call 36; refine (HSMB.out w22 Ab Ab2 cb cb2 RB22.out RC22.out).mono ?_; rintro e w23 ⟨rfl, hb⟩; have K23 := Lh (K22.out.trans (hb.mono K22.out.size)); have RB23 := Lh ((RB22.out.below hb).more hb.size); clear hb))
  clear RB21 RB22 RC22 K20 K21 K22 O9 HPF HENC HREN HSMB
  go_wp2_with (first
   | (at_builtin; refine wpList_append_rd rfl (.tmp 77) (.tmp 78) rfl w23.heap.size (.slice (some ⟨w23.heap.size, 0, none⟩) 0 0) 0 [] rfl (own_nil 5 1 w23 w23.heap.size (Nat.le_refl _)) Ab NE cb _ E rfl HNB.out.2 HEN.out.symm (RB23.out.below ((Below.refl w23.heap.size w23).alloc (Nat.le_refl _) (.cells #[] 5))) (by omega) (by simp) ?_; intro v24 w24 ho hg; have O24 := Lh ho; have K24 := Lh (below_app ((Below.refl w23.heap.size w23).alloc (Nat.le_refl _) (.cells #[] 5)) (own_nil 5 1 w23 w23.heap.size (Nat.le_refl _)) hg); clear ho hg)
   | (go_at_call 39; refine (HF30.out w24 (Bs9.out.trans ((K23.out.trans (K24.out.mono K23.out.size)).mono Bs9.out.size))).mono ?_; rintro e w25 ⟨v25, rfl, ho, hb⟩; obtain ⟨A25, c25, rfl, _, hn25, hr25⟩ := own_form ho; have O25 := Lh (own_below O24.out hb); have K25 := Lh (K24.out.trans (hb.mono K24.out.size)); have R25 := Lh hr25; have HN25 := Lh hn25; clear ho hb hr25 hn25)
   | (at_builtin; refine wpList_append_rd rfl (.tmp 79) (.tmp 81) rfl w23.heap.size v24 (0 + NE) ([] ++ B8 E) rfl O25.out A25 N30 c25 _ R30 rfl HN25.out HL30.out.symm R25.out (by omega) K25.out.size ?_; intro v26 w26 ho hg; have K26 := Lh (below_app K25.out O25.out hg); rw [List.nil_append, ← B8_append, Nat.zero_add] at ho; obtain ⟨A26, c26, rfl, hc26, _, hr26⟩ := own_form ho; have R26 := Lh hr26; have HC26 := Lh hc26; clear ho hg hr26 hc26))
  refine (HD1.out w26 A26 c26 R26.out HC26.out).mono ?_; rintro e w27 ⟨X1, X2, x1, x2, rfl, hpv, hb⟩
  have VX := Lh hpv
  have K27 := Lh (K23.out.trans ((K26.out.trans (hb.mono K26.out.size)).mono K23.out.size))
  have RB27 := Lh (((RB23.out.below K26.out).below (hb.mono K26.out.size)).more (Nat.le_trans K26.out.size hb.size))
  clear hpv hb
  obtain ⟨W10, hW_⟩ : ∃ W, W = (w27.alloc (.cells ZP.toArray 50)).setRow w27.heap.size (PR p.first p.size (.slice X1 n x1) (.slice X2 m x2)).toArray := ⟨_, rfl⟩
  have hb_ : Below w27.heap.size w27 W10 := by rw [hW_]; exact belowRow ((Below.refl _ _).alloc (Nat.le_refl _) _) (Nat.le_refl _) _
  have HBX := Lh hb_
  have YX := Lh (show Blk W10 w27.heap.size 50 (PR p.first p.size (.slice X1 n x1) (.slice X2 m x2)) by rw [hW_]; exact (Blk.new w27 50 ZP).row _)
  have HE := Lh hW_
  have hZ := hZP
  clear hW_ hb_
  go_upto_region 11 with (with_reducible refine wpList_store_row rfl 50 (.tmp 19) (.tmp 84) rfl w27.heap.size (PR p.first p.size (.slice X1 n x1) (.slice X2 m x2)).toArray rfl rfl 50 _ (heap_alloc_new w27 _) (size50A _ _ _ _) (ZP_PR _ _ _ _) (PR_one _ _ _ _ _ _ _ _) ?_)
  rw [← HE.out]
  try dsimp only [Act.put]
  clear HE hZ
  have VX' := Lh (VX.out.next HBX.out)
  have K10 := Lh (K27.out.trans (HBX.out.mono K27.out.size))
  have RB10 := Lh ((RB27.out.below HBX.out).more HBX.out.size)
  obtain ⟨g19, hg⟩ : ∃ g, g = w27.heap.size := ⟨_, rfl⟩
  rw [← hg] at YX ⊢
  have HS11 := Lh (And.intro YX.out (HCW.out W10 K10.out))
  have HMX := Lh (fun (W : World) (hb : Below W10.heap.size W10 W) => show Calls Tryd.prog 27 #[.agg (PR p.first p.size (.slice X1 n x1) (.slice X2 m x2)).toArray] W fun e w' => ∃ A' c', e = .returned (.agg (PR p.first p.size (.slice A' n c') (.slice X2 m x2)).toArray) ∧ PfAt w' w'.heap.size p A' X2 c' x2 ∧ Below W.heap.size W w' from
   model_any p X1 X2 n m x1 x2 W HPV.out.hn HPV.out.hm (VX'.out.next hb).at_)
  have HSP := Lh (fun (W : World) (A A2 : Option Addr) (c c2 : Nat) (hp : PfAt W W.heap.size p A A2 c c2) (hb : Below W10.heap.size W10 W) => show Calls Tryd.prog 26 #[.agg (PR p.first p.size (.slice A n c) (.slice A2 m c2)).toArray, .agg (PR p.first p.size (.slice P1 n d1) (.slice P2 m d2)).toArray] W fun e w' => e = .returned (.bool true) ∧ Below W.heap.size W w' from
   samePf_any p A A2 P1 P2 n m c c2 d1 d2 W HPV.out.hn HPV.out.hm hp (HPW.out W (K10.out.trans (hb.mono K10.out.size))).at_)
  clear hg YX HBX K23 K24 K25 K26 K27 RB23 RB27 O24 O25 R25 HN25 R26 HC26 HD1 VX
  go_cut [104] (fun s104 wx => s104 = .bool false ∧ Hid (Below W10.heap.size W10 wx))
  case first =>
   as_aux_lemma =>
    refine wp_region_held (S := fun W => Blk W g19 50 (PR p.first p.size (.slice X1 n x1) (.slice X2 m x2)) ∧ ∀ q u, (PR p.first p.size (.slice P1 n d1) (.slice P2 m d2))[q]? = some u → W.cell? ((⟨gl, i * 4, none⟩ : Addr).add q) = some u) (by kernel_rfl) ?_
    change wpAnyH _ _ _ _ _ _ _ _ (World.drew W10)
    have hs0 : Blk (World.drew W10) g19 50 (PR p.first p.size (.slice X1 n x1) (.slice X2 m x2)) ∧ ∀ q u, (PR p.first p.size (.slice P1 n d1) (.slice P2 m d2))[q]? = some u → (World.drew W10).cell? ((⟨gl, i * 4, none⟩ : Addr).add q) = some u := HS11.out
    have K0 := Lh (show Below W10.heap.size W10 (World.drew W10) from (Below.refl _ _).drew)
    generalize World.drew W10 = Wd at hs0 K0 ⊢
    refine tkH 0 ({ dst := some 87, op := Op.move (Operand.tmp 21), type := 30, pos := "law.go:167", after := #[], guard := none }) (.int .i64 0) hs0 (fun W hW => ?y1) ?_
    case y1 => go_simp
    try simp only [zp, zn, z1, z2, z3]
    refine tkH 1 ({ dst := some 88, op := Op.binOp BinOp.neq 30 (Operand.tmp 87) (Operand.const (Value.int IntKind.i64 0)) 30, type := 4, pos := "law.go:167", after := #[dD 0], guard := none }) (.bool false) hs0 (fun W hW => ?y2) ?_
    case y2 => go_simp
    try simp only [zp, zn, z1, z2, z3]
    refine tkH 2 ({ dst := some 89, op := Op.move (Operand.tmp 88), type := 4, pos := "law.go:167", after := #[dD 1], guard := none }) (.bool false) hs0 (fun W hW => ?y3) ?_
    case y3 => go_simp
    try simp only [zp, zn, z1, z2, z3]
    refine tkH 3 ({ dst := some 90, op := Op.move (Operand.tmp 20), type := 3, pos := "law.go:167", after := #[{ on := 2, ground := Ground.guard }], guard := some (2, false) }) (.int .i64 (NE : Int)) hs0 (fun W hW => ?y4) ?_
    case y4 => go_simp
    try simp only [zp, zn, z1, z2, z3]
    refine tkH 4 ({ dst := some 91, op := Op.move (Operand.tmp 18), type := 39, pos := "law.go:167", after := #[{ on := 2, ground := Ground.guard }], guard := some (2, false) }) (.slice Ab NE cb) hs0 (fun W hW => ?y5) ?_
    case y5 => go_simp
    try simp only [zp, zn, z1, z2, z3]
    refine tkH 5 ({ dst := some 92, op := Op.call { callee := Callee.builtin Builtin.len, args := #[Operand.tmp 91], argTypes := #[39] }, type := 3, pos := "law.go:167", after := #[dD 4, { on := 2, ground := Ground.guard }], guard := some (2, false) }) (.int .i64 (NE : Int)) hs0 (fun W hW => ?y6) ?_
    case y6 => go_simp
    try simp only [zp, zn, z1, z2, z3]
    refine tkH 6 ({ dst := some 93, op := Op.binOp BinOp.neq 3 (Operand.tmp 90) (Operand.tmp 92) 3, type := 4, pos := "law.go:167", after := #[dD 3, dD 5, { on := 2, ground := Ground.guard }], guard := some (2, false) }) (.bool false) hs0 (fun W hW => ?y7) ?_
    case y7 => go_simp
    try simp only [zp, zn, z1, z2, z3]
    refine tkH 7 ({ dst := some 94, op := Op.pick (Operand.tmp 89) (Operand.const (Value.bool true)) (Operand.tmp 93), type := 4, pos := "law.go:167", after := #[dD 2, dD 6], guard := none }) (.bool false) hs0 (fun W hW => ?y8) ?_
    case y8 => go_simp
    try simp only [zp, zn, z1, z2, z3]
    refine tkH 8 ({ dst := some 95, op := Op.move (Operand.tmp 94), type := 4, pos := "law.go:167", after := #[dD 7, dC 2], guard := none }) (.bool false) hs0 (fun W hW => ?y9) ?_
    case y9 => go_simp
    try simp only [zp, zn, z1, z2, z3]
    refine tkH 9 ({ dst := some 96, op := Op.load 50 (Operand.tmp 19), type := 50, pos := "law.go:167", after := #[{ on := 8, ground := Ground.guard }], guard := some (8, false) }) (.agg (PR p.first p.size (.slice X1 n x1) (.slice X2 m x2)).toArray) hs0 (fun W hW => exec_load_row _ _ 50 (.tmp 19) rfl ⟨g19, 0, none⟩ rfl (PR p.first p.size (.slice X1 n x1) (.slice X2 m x2)) W (run_loadVar_at W _ 50 (PR p.first p.size (.slice X1 n x1) (.slice X2 m x2)) _ (Blk.at hW.1) Tryd.underlying50 rfl (size50L _ _ _ _))) ?_
    try simp only [zp, zn, z1, z2, z3]
    refine tkH 11 ({ dst := some 98, op := Op.move (Operand.tmp 16), type := 63, pos := "law.go:167", after := #[{ on := 8, ground := Ground.guard }], guard := some (8, false) }) (.slice (some ⟨gl, 0, none⟩) 4 4) hs0 (fun W hW => ?y11) ?_
    case y11 => go_simp
    try simp only [zp, zn, z1, z2, z3]
    refine tkH 12 ({ dst := some 99, op := Op.move (Operand.tmp 17), type := 3, pos := "law.go:167", after := #[{ on := 8, ground := Ground.guard }], guard := some (8, false) }) (.int .i64 (i : Int)) hs0 (fun W hW => ?y12) ?_
    case y12 => go_simp
    try simp only [zp, zn, z1, z2, z3]
    refine tkH 13 ({ dst := some 100, op := Op.indexAddr 63 (Operand.tmp 98) (Operand.tmp 99), type := 0, pos := "law.go:167", after := #[dD 11, dD 12, { on := 8, ground := Ground.guard }], guard := some (8, false) }) (.pointer (some ⟨gl, i * 4, none⟩)) hs0 (fun W hW => ?y13) ?_
    case y13 => go_simp
    try simp only [zp, zn, z1, z2, z3]
    refine tkH 14 ({ dst := some 101, op := Op.load 54 (Operand.tmp 100), type := 54, pos := "law.go:167", after := #[dD 13, { on := 8, ground := Ground.guard }], guard := some (8, false) }) (.agg (PR p.first p.size (.slice P1 n d1) (.slice P2 m d2)).toArray) hs0 (fun W hW => exec_load_row _ _ 54 (.tmp 100) rfl ⟨gl, i * 4, none⟩ rfl (PR p.first p.size (.slice P1 n d1) (.slice P2 m d2)) W (run_loadVar_at W _ 54 (PR p.first p.size (.slice P1 n d1) (.slice P2 m d2)) _ (hW.2) Tryd.underlying54 rfl (size54L _ _ _ _))) ?_
    try simp only [zp, zn, z1, z2, z3]
    refine wpAnyH_ready (rs := [10]) (by kernel_rfl) (by simp) ?_
    refine AllReadyH.cons (o := { dst := some 97, op := Op.call { callee := Callee.value (Operand.func 27), args := #[Operand.tmp 96], argTypes := #[50] }, type := 54, pos := "law.go:167", after := #[dD 9, dC 8, { on := 8, ground := Ground.guard }], guard := some (8, false) }) rfl (fun K hK => ?_) AllReadyH.nil
    rw [if_pos (by rfl)]
    have HCC := HMX.out Wd K0.out
    go_simp
    refine HCC.mono ?_; rintro e w50 ⟨A50, c50, rfl, hpa, hb⟩
    clear HCC
    have hs50 := lc_below hs0 hb
    have O50 := Lh hpa
    have K50 := Lh (K0.out.trans (hb.mono K0.out.size))
    clear hpa hb
    go_wp2_with fail
    refine hK.out _ _ hs50 (fun _ => ?_)
    clear hK K
    try simp only [zp, zn, z1, z2, z3]
    refine wpAnyH_ready (rs := [15]) (by kernel_rfl) (by simp) ?_
    refine AllReadyH.cons (o := { dst := some 102, op := Op.call { callee := Callee.value (Operand.func 26), args := #[Operand.tmp 97, Operand.tmp 101], argTypes := #[54, 54] }, type := 4, pos := "law.go:167", after := #[dD 10, dD 14, dC 10, { on := 8, ground := Ground.guard }], guard := some (8, false) }) rfl (fun K hK => ?_) AllReadyH.nil
    rw [if_pos (by rfl)]
    have HCC := HSP.out w50 A50 X2 c50 x2 O50.out K50.out
    go_simp
    refine HCC.mono ?_; rintro e w51 ⟨rfl, hb⟩
    clear HCC
    have hs51 := lc_below hs50 hb
    have K51 := Lh (K50.out.trans (hb.mono K50.out.size))
    clear hb
    go_wp2_with fail
    refine hK.out _ _ hs51 (fun _ => ?_)
    clear hK K
    try simp only [zp, zn, z1, z2, z3]
    refine tkH 16 ({ dst := some 103, op := Op.unOp UnOp.not 4 (Operand.tmp 102), type := 4, pos := "law.go:167", after := #[dD 15, { on := 8, ground := Ground.guard }], guard := some (8, false) }) (.bool false) hs51 (fun W hW => ?y15) ?_
    case y15 => go_simp
    try simp only [zp, zn, z1, z2, z3]
    refine tkH 17 ({ dst := some 104, op := Op.pick (Operand.tmp 95) (Operand.const (Value.bool true)) (Operand.tmp 103), type := 4, pos := "law.go:167", after := #[dD 8, dD 16], guard := none }) (.bool false) hs51 (fun W hW => ?y16) ?_
    case y16 => go_simp
    try simp only [zp, zn, z1, z2, z3]
    refine wpAnyH_done (by kernel_rfl) ?_ _
    try simp only [zp, zn, z1, z2, z3]
    go_wp2_with fail
    go_meet
    exact ⟨rfl, K51⟩
  case rest =>
  obtain ⟨rfl, KE⟩ := hcut
  obtain ⟨w30, hw30⟩ : ∃ W, W = wc := ⟨_, rfl⟩
  rw [← hw30] at KE ⊢
  have K30 := Lh (K10.out.trans (KE.out.mono K10.out.size))
  have RB30 := Lh ((RB10.out.below KE.out).more KE.out.size)
  clear KE hw30 HS11 HMX HSP K10 RB10 VX' HPW HPV HCW HCL
  go_upto_region 14 with (at_builtin; refine wpList_append_rd rfl (.tmp 105) (.tmp 106) rfl w30.heap.size (.slice (some ⟨w30.heap.size, 0, none⟩) 0 0) 0 [] rfl (own_nil 5 1 w30 w30.heap.size (Nat.le_refl _)) Ab NE cb _ E rfl HNB.out.2 HEN.out.symm (RB30.out.below ((Below.refl w30.heap.size w30).alloc (Nat.le_refl _) (.cells #[] 5))) (by omega) (by simp) ?_; intro v31 w31 ho hg; have K31 := Lh (below_app ((Below.refl w30.heap.size w30).alloc (Nat.le_refl _) (.cells #[] 5)) (own_nil 5 1 w30 w30.heap.size (Nat.le_refl _)) hg); rw [List.nil_append, Nat.zero_add] at ho; have O31 := Lh ho; clear ho hg)
  obtain ⟨gb, c22, hv, hc22, _⟩ := O31.out.form hNE1
  subst hv
  obtain ⟨ch, hch⟩ : ∃ c : UInt8, c = E.getD kk 0 := ⟨_, rfl⟩
  have hcell : w31.cell? ⟨gb, kk, none⟩ = some (.int .u8 (ch.toNat : Int)) := own_cellAt O31.out (by rw [hch, B8_get E kk (by rw [← HEN.out]; exact hkN), List.getD_eq_getElem?_getD, List.getElem?_eq_getElem (by rw [← HEN.out]; exact hkN)]; rfl)
  have hfroz : w31.frozen? ⟨gb, kk, none⟩ = false := own_frozen O31.out
  obtain ⟨xb, hxb⟩ := xor_code8 (ch.toNat : Int) (bn % 256)
  have hcap22 : NE ≤ c22 := by obtain ⟨_, _, e1, h1, _, _⟩ := own_form O31.out; cases e1; exact h1
  have HC22 := Lh hcap22
  have HXB := Lh hxb
  clear hch hcap22 hc22 hxb
  go_upto_region 15 with (go_at_call 17; refine (HAR.out _).mono ?_; rintro e wx ⟨rfl, rfl⟩)
  rw [HXB.out]
  obtain ⟨W15, hW15⟩ : ∃ W, W = wx.setCell ⟨gb, kk, none⟩ (.int .u8 (xb.toNat : Int)) := ⟨_, rfl⟩
  rw [← hW15]
  have hgb : w30.heap.size ≤ gb := (O31.out.lt gb rfl).1
  have hb15 : Below w30.heap.size w30 W15 := by rw [hW15]; exact K31.out.setCell (p := ⟨gb, kk, none⟩) hgb _
  have O15 := Lh (show W15.ownsRow w30.heap.size 5 1 (.slice (some ⟨gb, 0, none⟩) NE c22) NE (B8 (E.set kk xb)) by
   rw [hW15, show B8 (E.set kk xb) = (B8 E).set kk (.int .u8 (xb.toNat : Int)) by unfold B8; rw [List.map_set]]
   exact (O31.out.stored kk _).1)
  have K15 := Lh (K30.out.trans (hb15.mono K30.out.size))
  have HRX := Lh (show Rd W15 W15.heap.size (some ⟨gb, 0, none⟩) (B8 (E.set kk xb)) ∧ Rd W15 W15.heap.size Ab (B8 (E.take kk)) from ⟨Rd.of_own O15.out, by
   have := (RB30.out.below hb15).more hb15.size
   unfold B8 at this ⊢
   rw [List.map_take]; exact this.take kk⟩)
  have HLX := Lh (show NE = (E.set kk xb).length ∧ NE ≤ c22 ∧ NE ≤ 1048576 from ⟨by rw [List.length_set, ← HEN.out], HC22.out, by omega⟩)
  have HLK := Lh (show kk = (E.take kk).length ∧ kk ≤ cb ∧ kk ≤ 1048576 from ⟨HKN.out.1, by have := HNB.out.1; omega, HKN.out.2⟩)
  have HS39 := Lh (fun W => slice39_to Ab NE cb kk (by have := HNB.out.1; omega) W)
  have HF60' := Lh (fun (W : World) (hb : Below W15.heap.size W15 W) => HF60.out W (Bs9.out.trans ((K15.out.trans (hb.mono K15.out.size)).mono Bs9.out.size)))
  have hW15 := ()
  clear hW15 hgb hb15 K30 K31 RB30 O31 O15 HC22 HXB hcell hfroz HKN
  go_cut [23] (fun s23 wx => ∃ gt, s23 = .slice (some ⟨gt, 0, none⟩) 5 5 ∧ Hid (Txs wx gt ∧ Below W15.heap.size W15 wx))
  case first =>
   as_aux_lemma =>
    refine wp_region_any (by kernel_rfl) ?_
    change wpAny _ _ _ _ _ _ _ (World.drew W15)
    have T0 := Lh ((TeS.start W15 bn).below ((Below.refl W15.heap.size W15).drew))
    generalize World.drew W15 = Wd at T0 ⊢
    refine tk 0 ({ dst := some 119, op := Op.move (Operand.tmp 22), type := 39, pos := "law.go:172", after := #[], guard := none }) (.slice (some ⟨gb, 0, none⟩) NE c22) (fun W => ?y0) ?_
    case y0 => go_simp
    try simp only [zp, zn, z1, z2, z3]
    refine tk 1 ({ dst := some 120, op := Op.move (Operand.tmp 18), type := 39, pos := "law.go:172", after := #[], guard := none }) (.slice Ab NE cb) (fun W => ?y1) ?_
    case y1 => go_simp
    try simp only [zp, zn, z1, z2, z3]
    refine tk 2 ({ dst := some 121, op := Op.move (Operand.tmp 4), type := 3, pos := "law.go:172", after := #[], guard := none }) (.int .i64 an) (fun W => ?y2) ?_
    case y2 => go_simp
    try simp only [zp, zn, z1, z2, z3]
    refine tk 3 ({ dst := some 122, op := Op.move (Operand.tmp 18), type := 39, pos := "law.go:172", after := #[], guard := none }) (.slice Ab NE cb) (fun W => ?y3) ?_
    case y3 => go_simp
    try simp only [zp, zn, z1, z2, z3]
    refine tk 4 ({ dst := some 123, op := Op.call { callee := Callee.builtin Builtin.len, args := #[Operand.tmp 122], argTypes := #[39] }, type := 3, pos := "law.go:172", after := #[dD 3], guard := none }) (.int .i64 (NE : Int)) (fun W => ?y4) ?_
    case y4 => go_simp
    try simp only [zp, zn, z1, z2, z3]
    refine tk 7 ({ dst := some 126, op := Op.move (Operand.tmp 5), type := 39, pos := "law.go:172", after := #[], guard := none }) (.slice A' NR c') (fun W => ?y5) ?_
    case y5 => go_simp
    try simp only [zp, zn, z1, z2, z3]
    refine tk 9 ({ dst := some 128, op := Op.move (Operand.tmp 3), type := 3, pos := "law.go:172", after := #[], guard := none }) (.int .i64 bn) (fun W => ?y6) ?_
    case y6 => go_simp
    try simp only [zp, zn, z1, z2, z3]
    refine wpAny_hold fun G gin gout a0 ha0 => ?_
    have GIN := Lh gin
    have GOUT := Lh gout
    have HA0 := Lh ha0
    have HSZ := Lh (show a0.tmps.size = 188 by rw [ha0]; rfl)
    have E119 := Lh (show a0.eval (.tmp 119) = .slice (some ⟨gb, 0, none⟩) NE c22 by rw [ha0]; rfl)
    have E120 := Lh (show a0.eval (.tmp 120) = .slice Ab NE cb by rw [ha0]; rfl)
    have E121 := Lh (show a0.eval (.tmp 121) = .int .i64 an by rw [ha0]; rfl)
    have E123 := Lh (show a0.eval (.tmp 123) = .int .i64 (NE : Int) by rw [ha0]; rfl)
    have E126 := Lh (show a0.eval (.tmp 126) = .slice A' NR c' by rw [ha0]; rfl)
    have E128 := Lh (show a0.eval (.tmp 128) = .int .i64 bn by rw [ha0]; rfl)
    clear gin gout ha0
    have s0 := Lh (show ∀ Af cf g10 v11 g12 As cs A14 c14 g15 v16 g17 As2 cs2 A19 c19 W, Hid (TeS W15 bn (N60 ≤ cf ∧ L1 + NS ≤ c14) R60 (XX2 ++ S1) (XX1 ++ S1) [] (L2 + NS) 0 true true true false Af (.slice A19 (L2 + NS) c19) A14 none none none none none W ∧ L2 + NS ≤ c19) → G 2 #[tt, tt, tt, tt, tt, tt, tt, tt, tt, tt, tt, tt, tt, tt, tt, tt, tt, tt, tt, tt, ff, ff] (((((((((((((a0.put (some 124) (.int .i64 (kk : Int))).put (some 125) (.slice Ab kk cb)).put (some 127) (.slice Af N60 cf)).put (some 129) (.slice (some ⟨g10, 0, none⟩) 1 1)).put (some 130) (v11)).put (some 131) (.slice (some ⟨g12, 0, none⟩) 1 1)).put (some 132) (.slice As NS cs)).put (some 133) (.slice A14 (L1 + NS) c14)).put (some 134) (.slice (some ⟨g15, 0, none⟩) 2 2)).put (some 135) (v16)).put (some 136) (.slice (some ⟨g17, 0, none⟩) 1 1)).put (some 137) (.slice As2 NS cs2)).put (some 138) (.slice A19 (L2 + NS) c19)) W from by
     intro Af cf g10 v11 g12 As cs A14 c14 g15 v16 g17 As2 cs2 A19 c19 W T
     apply GIN.out
     refine wpAny_ready (rs := [20]) (by kernel_rfl) (by simp) ?_
     refine AllReady.cons (o := { dst := some 139, op := Op.buildSlice 82 5 #[(0, Operand.tmp 119), (1, Operand.tmp 125), (2, Operand.tmp 127), (3, Operand.tmp 133), (4, Operand.tmp 138)], type := 82, pos := "law.go:172", after := #[dD 0, dD 6, dD 8, dD 14, dD 19], guard := none }) rfl (fun K hK => ?_) AllReady.nil
     rw [if_pos (by rfl)]
     obtain ⟨⟨bb, hT⟩, h19⟩ := T.out
     have hbt := (Below.refl W.heap.size W).alloc (Nat.le_refl _) (.cells [.slice (some ⟨gb, 0, none⟩) NE c22, .slice Ab kk cb, .slice Af N60 cf, .slice A14 (L1 + NS) c14, .slice A19 (L2 + NS) c19].toArray 39)
     have hbw := hT.b.trans (hbt.mono hT.b.size)
     have KE := Lh (And.intro (txs5 (Blk.new W 39 [.slice (some ⟨gb, 0, none⟩) NE c22, .slice Ab kk cb, .slice Af N60 cf, .slice A14 (L1 + NS) c14, .slice A19 (L2 + NS) c19])
      ⟨((HRX.out.1.below hbw).more hbw.size), HLX.out.1, HLX.out.2.1, HLX.out.2.2⟩
      ⟨((HRX.out.2.below hbw).more hbw.size), HLK.out.1, HLK.out.2.1, HLK.out.2.2⟩ HCUT.out
      ⟨(((hT.f rfl).more hT.h.2).below hbt).more hbt.size, HL60.out.1, hT.c.1, HL60.out.2⟩
      ⟨(((hT.a rfl).more hT.h.2).below hbt).more hbt.size, HL14.out.1, hT.c.2, HL14.out.2⟩
      ⟨((Rd.of_own (hT.x rfl)).below hbt).more hbt.size, HL19.out.1, h19, HL19.out.2⟩) hbw)
     clear hbt hT h19 hbw
     refine wp_bs (vs := #[(0, .slice (some ⟨gb, 0, none⟩) NE c22), (1, .slice Ab kk cb), (2, .slice Af N60 cf), (3, .slice A14 (L1 + NS) c14), (4, .slice A19 (L2 + NS) c19)]) rfl (by simp [ev_ne, ev_eq, sz_put, HSZ.out, E119.out]) (build82 W (some ⟨gb, 0, none⟩) Ab Af A14 A19 NE kk N60 (L1 + NS) (L2 + NS) c22 cb cf c14 c19) ?_
     refine hK _ _ ?_
     clear hK K
     dsimp only
     rw [HA0.out]
     simp only [put_mk, z1, z2, z3]
     refine tk 21 ({ dst := some 23, op := Op.assign (Operand.tmp 139), type := 82, pos := "law.go:172", after := #[dD 20, dC 19, dP 0, dP 1, dP 2, dP 3, dP 4, dP 5, dP 6, dP 7, dP 8, dP 9, dP 10, dP 11, dP 12, dP 13, dP 14, dP 15, dP 16, dP 17, dP 18, dP 19, dP 20], guard := none }) (.slice (some ⟨W.heap.size, 0, none⟩) 5 5) (fun W => ?y21) ?_
     case y21 => go_simp
     try simp only [zp, zn, z1, z2, z3]
     refine wpAny_done (by kernel_rfl) ?_ _
     try simp only [zp, zn, z1, z2, z3]
     go_wp2_with fail
     go_meet
     exact ⟨W.heap.size, rfl, KE⟩)
    have s1 := Lh (show ∀ Af cf g10 v11 g12 As cs A14 c14 g15 v16 g17 As2 cs2 W, Hid (TeS W15 bn (N60 ≤ cf ∧ L1 + NS ≤ c14) R60 XX2 (XX1 ++ S1) S1 L2 cs2 true true true true Af v16 A14 As2 none none none none W) → G 3 #[tt, tt, tt, tt, tt, tt, tt, tt, tt, tt, tt, tt, tt, tt, tt, tt, tt, tt, tt, ff, ff, ff] ((((((((((((a0.put (some 124) (.int .i64 (kk : Int))).put (some 125) (.slice Ab kk cb)).put (some 127) (.slice Af N60 cf)).put (some 129) (.slice (some ⟨g10, 0, none⟩) 1 1)).put (some 130) (v11)).put (some 131) (.slice (some ⟨g12, 0, none⟩) 1 1)).put (some 132) (.slice As NS cs)).put (some 133) (.slice A14 (L1 + NS) c14)).put (some 134) (.slice (some ⟨g15, 0, none⟩) 2 2)).put (some 135) (v16)).put (some 136) (.slice (some ⟨g17, 0, none⟩) 1 1)).put (some 137) (.slice As2 NS cs2)) W from by
     intro Af cf g10 v11 g12 As cs A14 c14 g15 v16 g17 As2 cs2 W T
     apply GIN.out
     refine wpAny_ready (rs := [19]) (by kernel_rfl) (by simp) ?_
     refine aC (o := { dst := some 138, op := Op.call { callee := Callee.builtin Builtin.append, args := #[Operand.tmp 135, Operand.tmp 137], argTypes := #[39, 39] }, type := 39, pos := "law.go:172", after := #[dD 16, dD 18, dC 18], guard := none }) (fun K hK => ?_) aN
     obtain ⟨bb, hT⟩ := T.out
     refine wp_append_rd (.tmp 135) (.tmp 137) rfl bb v16 L2 _ (by simp [ev_ne, ev_eq, sz_put, HSZ.out]) (hT.x rfl) As2 NS cs2 _ S1 (by simp [ev_ne, ev_eq, sz_put, HSZ.out]) (hT.s rfl).2 HLS.out (hT.s rfl).1 (by omega) hT.h.2 ?_
     intro v w1 ho hg
     rw [← B8_append] at ho
     obtain ⟨A19, c19, rfl, hcap, _, _⟩ := own_form ho
     refine hK _ _ ?_
     clear hK K
     have T1 := Lh (And.intro (hT.join ho hg) hcap)
     refine GOUT.out _ _ _ _ ?_
     dsimp only
     exact s0.out Af cf g10 v11 g12 As cs A14 c14 g15 v16 g17 As2 cs2 A19 c19 _ T1)
    have s2 := Lh (show ∀ Af cf g10 v11 g12 As cs A14 c14 g15 v16 g17 W, Hid (TeS W15 bn (N60 ≤ cf ∧ L1 + NS ≤ c14) R60 XX2 (XX1 ++ S1) [] L2 0 true true true false Af v16 A14 none none none none (some g17) W) → G 4 #[tt, tt, tt, tt, tt, tt, tt, tt, tt, tt, tt, tt, tt, tt, tt, tt, tt, tt, ff, ff, ff, ff] (((((((((((a0.put (some 124) (.int .i64 (kk : Int))).put (some 125) (.slice Ab kk cb)).put (some 127) (.slice Af N60 cf)).put (some 129) (.slice (some ⟨g10, 0, none⟩) 1 1)).put (some 130) (v11)).put (some 131) (.slice (some ⟨g12, 0, none⟩) 1 1)).put (some 132) (.slice As NS cs)).put (some 133) (.slice A14 (L1 + NS) c14)).put (some 134) (.slice (some ⟨g15, 0, none⟩) 2 2)).put (some 135) (v16)).put (some 136) (.slice (some ⟨g17, 0, none⟩) 1 1)) W from by
     intro Af cf g10 v11 g12 As cs A14 c14 g15 v16 g17 W T
     apply GIN.out
     refine wpAny_ready (rs := [18]) (by kernel_rfl) (by simp) ?_
     refine aC (o := { dst := some 137, op := Op.call { callee := Callee.value (Operand.func 41), args := #[Operand.tmp 136], argTypes := #[47] }, type := 39, pos := "law.go:172", after := #[dD 17, dC 16], guard := none }) (fun K hK => ?_) aN
     refine wp_callv 41 #[.slice (some ⟨g17, 0, none⟩) 1 1] (run_k41_18 _ _) (by simp [ev_ne, ev_eq, sz_put, HSZ.out]) ?_
     refine (HST.out _ _ (rd_blk T.out.b17)).mono ?_
     rintro e w1 ⟨v, rfl, ho, hb⟩
     obtain ⟨As2, cs2, rfl, hcap, hnil, hrd⟩ := own_form ho
     refine ⟨_, rfl, hK _ _ ?_⟩
     clear hK K
     have T1 := Lh (((T.out.d17).below hb).strs hrd hnil)
     refine GOUT.out _ _ _ _ ?_
     dsimp only
     exact s1.out Af cf g10 v11 g12 As cs A14 c14 g15 v16 g17 As2 cs2 _ T1)
    have s3 := Lh (show ∀ Af cf g10 v11 g12 As cs A14 c14 g15 v16 W, Hid (TeS W15 bn (N60 ≤ cf ∧ L1 + NS ≤ c14) R60 XX2 (XX1 ++ S1) [] L2 0 true true true false Af v16 A14 none none none none none W) → G 5 #[tt, tt, tt, tt, tt, tt, tt, tt, tt, tt, tt, tt, tt, tt, tt, tt, tt, ff, ff, ff, ff, ff] ((((((((((a0.put (some 124) (.int .i64 (kk : Int))).put (some 125) (.slice Ab kk cb)).put (some 127) (.slice Af N60 cf)).put (some 129) (.slice (some ⟨g10, 0, none⟩) 1 1)).put (some 130) (v11)).put (some 131) (.slice (some ⟨g12, 0, none⟩) 1 1)).put (some 132) (.slice As NS cs)).put (some 133) (.slice A14 (L1 + NS) c14)).put (some 134) (.slice (some ⟨g15, 0, none⟩) 2 2)).put (some 135) (v16)) W from by
     intro Af cf g10 v11 g12 As cs A14 c14 g15 v16 W T
     apply GIN.out
     refine wpAny_ready (rs := [17]) (by kernel_rfl) (by simp) ?_
     refine aC (o := kLawK_0) (fun K hK => ?_) aN
     refine al17 T.out fun g17 W1 T1 => hK _ _ (GOUT.out _ _ _ _ ?_)
     exact s2.out Af cf g10 v11 g12 As cs A14 c14 g15 v16 g17 _ T1)
    have s4 := Lh (show ∀ Af cf g10 v11 g12 As cs A14 c14 g15 g17 W, Hid (TeS W15 bn (N60 ≤ cf ∧ L1 + NS ≤ c14) R60 [] (XX1 ++ S1) [] 0 0 true false true false Af (.int .i64 0) A14 none none none (some g15) (some g17) W) → G 5 #[tt, tt, tt, tt, tt, tt, tt, tt, tt, tt, tt, tt, tt, tt, tt, tt, ff, tt, ff, ff, ff, ff] ((((((((((a0.put (some 124) (.int .i64 (kk : Int))).put (some 125) (.slice Ab kk cb)).put (some 127) (.slice Af N60 cf)).put (some 129) (.slice (some ⟨g10, 0, none⟩) 1 1)).put (some 130) (v11)).put (some 131) (.slice (some ⟨g12, 0, none⟩) 1 1)).put (some 132) (.slice As NS cs)).put (some 133) (.slice A14 (L1 + NS) c14)).put (some 134) (.slice (some ⟨g15, 0, none⟩) 2 2)).put (some 136) (.slice (some ⟨g17, 0, none⟩) 1 1)) W from by
     intro Af cf g10 v11 g12 As cs A14 c14 g15 g17 W T
     apply GIN.out
     refine wpAny_ready (rs := [16]) (by kernel_rfl) (by simp) ?_
     refine aC (o := kLawK_1) (fun K hK => ?_) aN
     refine wp_callv 40 #[.slice (some ⟨g15, 0, none⟩) 2 2] (run_k40_16 _ _) (by simp [ev_ne, ev_eq, sz_put, HSZ.out]) ?_
     refine (HI2.out _ _ (rd_blk T.out.b15)).mono ?_
     rintro e w1 ⟨v16, rfl, ho, hb⟩
     refine ⟨_, rfl, hK _ _ ?_⟩
     clear hK K
     have T1 := Lh ((T.out.d15).ints hb ho)
     refine GOUT.out _ _ _ _ ?_
     dsimp only
     rw [pc 136 135]
     exact s2.out Af cf g10 v11 g12 As cs A14 c14 g15 v16 g17 _ T1)
    have s5 := Lh (show ∀ Af cf g10 v11 g12 As cs A14 c14 g15 W, Hid (TeS W15 bn (N60 ≤ cf ∧ L1 + NS ≤ c14) R60 [] (XX1 ++ S1) [] 0 0 true false true false Af (.int .i64 0) A14 none none none (some g15) none W) → G 6 #[tt, tt, tt, tt, tt, tt, tt, tt, tt, tt, tt, tt, tt, tt, tt, tt, ff, ff, ff, ff, ff, ff] (((((((((a0.put (some 124) (.int .i64 (kk : Int))).put (some 125) (.slice Ab kk cb)).put (some 127) (.slice Af N60 cf)).put (some 129) (.slice (some ⟨g10, 0, none⟩) 1 1)).put (some 130) (v11)).put (some 131) (.slice (some ⟨g12, 0, none⟩) 1 1)).put (some 132) (.slice As NS cs)).put (some 133) (.slice A14 (L1 + NS) c14)).put (some 134) (.slice (some ⟨g15, 0, none⟩) 2 2)) W from by
     intro Af cf g10 v11 g12 As cs A14 c14 g15 W T
     apply GIN.out
     refine wpAny_ready (rs := [16, 17]) (by kernel_rfl) (by simp) ?_
     refine aC (o := kLawK_1) (fun K hK => ?_) (aC (o := kLawK_0) (fun K hK => ?_) aN)
     ·
      refine wp_callv 40 #[.slice (some ⟨g15, 0, none⟩) 2 2] (run_k40_16 _ _) (by simp [ev_ne, ev_eq, sz_put, HSZ.out]) ?_
      refine (HI2.out _ _ (rd_blk T.out.b15)).mono ?_
      rintro e w1 ⟨v16, rfl, ho, hb⟩
      refine ⟨_, rfl, hK _ _ ?_⟩
      clear hK K
      have T1 := Lh ((T.out.d15).ints hb ho)
      refine GOUT.out _ _ _ _ ?_
      dsimp only
      exact s3.out Af cf g10 v11 g12 As cs A14 c14 g15 v16 _ T1
     ·
      refine al17 T.out fun g17 W1 T1 => hK _ _ (GOUT.out _ _ _ _ ?_)
      exact s4.out Af cf g10 v11 g12 As cs A14 c14 g15 g17 _ T1)
    have s6 := Lh (show ∀ Af cf g10 v11 g12 As cs A14 c14 g17 W, Hid (TeS W15 bn (N60 ≤ cf ∧ L1 + NS ≤ c14) R60 [] (XX1 ++ S1) [] 0 0 true false true false Af (.int .i64 0) A14 none none none none (some g17) W) → G 6 #[tt, tt, tt, tt, tt, tt, tt, tt, tt, tt, tt, tt, tt, tt, tt, ff, ff, tt, ff, ff, ff, ff] (((((((((a0.put (some 124) (.int .i64 (kk : Int))).put (some 125) (.slice Ab kk cb)).put (some 127) (.slice Af N60 cf)).put (some 129) (.slice (some ⟨g10, 0, none⟩) 1 1)).put (some 130) (v11)).put (some 131) (.slice (some ⟨g12, 0, none⟩) 1 1)).put (some 132) (.slice As NS cs)).put (some 133) (.slice A14 (L1 + NS) c14)).put (some 136) (.slice (some ⟨g17, 0, none⟩) 1 1)) W from by
     intro Af cf g10 v11 g12 As cs A14 c14 g17 W T
     apply GIN.out
     refine wpAny_ready (rs := [15]) (by kernel_rfl) (by simp) ?_
     refine aC (o := kLawK_2) (fun K hK => ?_) aN
     refine al15 T.out fun g15 W1 T1 => hK _ _ (GOUT.out _ _ _ _ ?_)
     rw [pc 136 134]
     exact s4.out Af cf g10 v11 g12 As cs A14 c14 g15 g17 _ T1)
    have s7 := Lh (show ∀ Af cf g10 v11 g12 As cs A14 c14 W, Hid (TeS W15 bn (N60 ≤ cf ∧ L1 + NS ≤ c14) R60 [] (XX1 ++ S1) [] 0 0 true false true false Af (.int .i64 0) A14 none none none none none W) → G 7 #[tt, tt, tt, tt, tt, tt, tt, tt, tt, tt, tt, tt, tt, tt, tt, ff, ff, ff, ff, ff, ff, ff] ((((((((a0.put (some 124) (.int .i64 (kk : Int))).put (some 125) (.slice Ab kk cb)).put (some 127) (.slice Af N60 cf)).put (some 129) (.slice (some ⟨g10, 0, none⟩) 1 1)).put (some 130) (v11)).put (some 131) (.slice (some ⟨g12, 0, none⟩) 1 1)).put (some 132) (.slice As NS cs)).put (some 133) (.slice A14 (L1 + NS) c14)) W from by
     intro Af cf g10 v11 g12 As cs A14 c14 W T
     apply GIN.out
     refine wpAny_ready (rs := [15, 17]) (by kernel_rfl) (by simp) ?_
     refine aC (o := kLawK_2) (fun K hK => ?_) (aC (o := kLawK_0) (fun K hK => ?_) aN)
     ·
      refine al15 T.out fun g15 W1 T1 => hK _ _ (GOUT.out _ _ _ _ ?_)
      exact s5.out Af cf g10 v11 g12 As cs A14 c14 g15 _ T1
     ·
      refine al17 T.out fun g17 W1 T1 => hK _ _ (GOUT.out _ _ _ _ ?_)
      exact s6.out Af cf g10 v11 g12 As cs A14 c14 g17 _ T1)
    have s8 := Lh (show ∀ Af cf g10 v11 g12 As cs g15 g17 W, Hid (TeS W15 bn (N60 ≤ cf) R60 XX1 [] S1 L1 cs true true false true Af v11 none As none none (some g15) (some g17) W) → G 6 #[tt, tt, tt, tt, tt, tt, tt, tt, tt, tt, tt, tt, tt, tt, ff, tt, ff, tt, ff, ff, ff, ff] (((((((((a0.put (some 124) (.int .i64 (kk : Int))).put (some 125) (.slice Ab kk cb)).put (some 127) (.slice Af N60 cf)).put (some 129) (.slice (some ⟨g10, 0, none⟩) 1 1)).put (some 130) (v11)).put (some 131) (.slice (some ⟨g12, 0, none⟩) 1 1)).put (some 132) (.slice As NS cs)).put (some 134) (.slice (some ⟨g15, 0, none⟩) 2 2)).put (some 136) (.slice (some ⟨g17, 0, none⟩) 1 1)) W from by
     intro Af cf g10 v11 g12 As cs g15 g17 W T
     apply GIN.out
     refine wpAny_ready (rs := [14]) (by kernel_rfl) (by simp) ?_
     refine aC (o := kLawK_3) (fun K hK => ?_) aN
     obtain ⟨bb, hT⟩ := T.out
     refine wp_append_rd (.tmp 130) (.tmp 132) rfl bb v11 L1 _ (by simp [ev_ne, ev_eq, sz_put, HSZ.out]) (hT.x rfl) As NS cs _ S1 (by simp [ev_ne, ev_eq, sz_put, HSZ.out]) (hT.s rfl).2 HLS.out (hT.s rfl).1 (by omega) hT.h.2 ?_
     intro v w1 ho hg
     rw [← B8_append] at ho
     obtain ⟨A14, c14, rfl, hcap, _, _⟩ := own_form ho
     refine hK _ _ ?_
     clear hK K
     have T1 := Lh ((hT.join ho hg).done1 hcap)
     refine GOUT.out _ _ _ _ ?_
     dsimp only
     rw [pc 136 133, pc 134 133]
     exact s4.out Af cf g10 v11 g12 As cs A14 c14 g15 g17 _ T1)
    have s9 := Lh (show ∀ Af cf g10 v11 g12 As cs g15 W, Hid (TeS W15 bn (N60 ≤ cf) R60 XX1 [] S1 L1 cs true true false true Af v11 none As none none (some g15) none W) → G 7 #[tt, tt, tt, tt, tt, tt, tt, tt, tt, tt, tt, tt, tt, tt, ff, tt, ff, ff, ff, ff, ff, ff] ((((((((a0.put (some 124) (.int .i64 (kk : Int))).put (some 125) (.slice Ab kk cb)).put (some 127) (.slice Af N60 cf)).put (some 129) (.slice (some ⟨g10, 0, none⟩) 1 1)).put (some 130) (v11)).put (some 131) (.slice (some ⟨g12, 0, none⟩) 1 1)).put (some 132) (.slice As NS cs)).put (some 134) (.slice (some ⟨g15, 0, none⟩) 2 2)) W from by
     intro Af cf g10 v11 g12 As cs g15 W T
     apply GIN.out
     refine wpAny_ready (rs := [14, 17]) (by kernel_rfl) (by simp) ?_
     refine aC (o := kLawK_3) (fun K hK => ?_) (aC (o := kLawK_0) (fun K hK => ?_) aN)
     ·
      obtain ⟨bb, hT⟩ := T.out
      refine wp_append_rd (.tmp 130) (.tmp 132) rfl bb v11 L1 _ (by simp [ev_ne, ev_eq, sz_put, HSZ.out]) (hT.x rfl) As NS cs _ S1 (by simp [ev_ne, ev_eq, sz_put, HSZ.out]) (hT.s rfl).2 HLS.out (hT.s rfl).1 (by omega) hT.h.2 ?_
      intro v w1 ho hg
      rw [← B8_append] at ho
      obtain ⟨A14, c14, rfl, hcap, _, _⟩ := own_form ho
      refine hK _ _ ?_
      clear hK K
      have T1 := Lh ((hT.join ho hg).done1 hcap)
      refine GOUT.out _ _ _ _ ?_
      dsimp only
      rw [pc 134 133]
      exact s5.out Af cf g10 v11 g12 As cs A14 c14 g15 _ T1
     ·
      refine al17 T.out fun g17 W1 T1 => hK _ _ (GOUT.out _ _ _ _ ?_)
      exact s8.out Af cf g10 v11 g12 As cs g15 g17 _ T1)
    have s10 := Lh (show ∀ Af cf g10 v11 g12 As cs g17 W, Hid (TeS W15 bn (N60 ≤ cf) R60 XX1 [] S1 L1 cs true true false true Af v11 none As none none none (some g17) W) → G 7 #[tt, tt, tt, tt, tt, tt, tt, tt, tt, tt, tt, tt, tt, tt, ff, ff, ff, tt, ff, ff, ff, ff] ((((((((a0.put (some 124) (.int .i64 (kk : Int))).put (some 125) (.slice Ab kk cb)).put (some 127) (.slice Af N60 cf)).put (some 129) (.slice (some ⟨g10, 0, none⟩) 1 1)).put (some 130) (v11)).put (some 131) (.slice (some ⟨g12, 0, none⟩) 1 1)).put (some 132) (.slice As NS cs)).put (some 136) (.slice (some ⟨g17, 0, none⟩) 1 1)) W from by
     intro Af cf g10 v11 g12 As cs g17 W T
     apply GIN.out
     refine wpAny_ready (rs := [14, 15]) (by kernel_rfl) (by simp) ?_
     refine aC (o := kLawK_3) (fun K hK => ?_) (aC (o := kLawK_2) (fun K hK => ?_) aN)
     ·
      obtain ⟨bb, hT⟩ := T.out
      refine wp_append_rd (.tmp 130) (.tmp 132) rfl bb v11 L1 _ (by simp [ev_ne, ev_eq, sz_put, HSZ.out]) (hT.x rfl) As NS cs _ S1 (by simp [ev_ne, ev_eq, sz_put, HSZ.out]) (hT.s rfl).2 HLS.out (hT.s rfl).1 (by omega) hT.h.2 ?_
      intro v w1 ho hg
      rw [← B8_append] at ho
      obtain ⟨A14, c14, rfl, hcap, _, _⟩ := own_form ho
      refine hK _ _ ?_
      clear hK K
      have T1 := Lh ((hT.join ho hg).done1 hcap)
      refine GOUT.out _ _ _ _ ?_
      dsimp only
      rw [pc 136 133]
      exact s6.out Af cf g10 v11 g12 As cs A14 c14 g17 _ T1
     ·
      refine al15 T.out fun g15 W1 T1 => hK _ _ (GOUT.out _ _ _ _ ?_)
      rw [pc 136 134]
      exact s8.out Af cf g10 v11 g12 As cs g15 g17 _ T1)
    have s11 := Lh (show ∀ Af cf g10 v11 g12 As cs W, Hid (TeS W15 bn (N60 ≤ cf) R60 XX1 [] S1 L1 cs true true false true Af v11 none As none none none none W) → G 8 #[tt, tt, tt, tt, tt, tt, tt, tt, tt, tt, tt, tt, tt, tt, ff, ff, ff, ff, ff, ff, ff, ff] (((((((a0.put (some 124) (.int .i64 (kk : Int))).put (some 125) (.slice Ab kk cb)).put (some 127) (.slice Af N60 cf)).put (some 129) (.slice (some ⟨g10, 0, none⟩) 1 1)).put (some 130) (v11)).put (some 131) (.slice (some ⟨g12, 0, none⟩) 1 1)).put (some 132) (.slice As NS cs)) W from by
     intro Af cf g10 v11 g12 As cs W T
     apply GIN.out
     refine wpAny_ready (rs := [14, 15, 17]) (by kernel_rfl) (by simp) ?_
     refine aC (o := kLawK_3) (fun K hK => ?_) (aC (o := kLawK_2) (fun K hK => ?_) (aC (o := kLawK_0) (fun K hK => ?_) aN))
     ·
      obtain ⟨bb, hT⟩ := T.out
      refine wp_append_rd (.tmp 130) (.tmp 132) rfl bb v11 L1 _ (by simp [ev_ne, ev_eq, sz_put, HSZ.out]) (hT.x rfl) As NS cs _ S1 (by simp [ev_ne, ev_eq, sz_put, HSZ.out]) (hT.s rfl).2 HLS.out (hT.s rfl).1 (by omega) hT.h.2 ?_
      intro v w1 ho hg
      rw [← B8_append] at ho
      obtain ⟨A14, c14, rfl, hcap, _, _⟩ := own_form ho
      refine hK _ _ ?_
      clear hK K
      have T1 := Lh ((hT.join ho hg).done1 hcap)
      refine GOUT.out _ _ _ _ ?_
      dsimp only
      exact s7.out Af cf g10 v11 g12 As cs A14 c14 _ T1
     ·
      refine al15 T.out fun g15 W1 T1 => hK _ _ (GOUT.out _ _ _ _ ?_)
      exact s9.out Af cf g10 v11 g12 As cs g15 _ T1
     ·
      refine al17 T.out fun g17 W1 T1 => hK _ _ (GOUT.out _ _ _ _ ?_)
      exact s10.out Af cf g10 v11 g12 As cs g17 _ T1)
    have s12 := Lh (show ∀ Af cf g10 v11 g12 g15 g17 W, Hid (TeS W15 bn (N60 ≤ cf) R60 XX1 [] [] L1 0 true true false false Af v11 none none none (some g12) (some g15) (some g17) W) → G 7 #[tt, tt, tt, tt, tt, tt, tt, tt, tt, tt, tt, tt, tt, ff, ff, tt, ff, tt, ff, ff, ff, ff] ((((((((a0.put (some 124) (.int .i64 (kk : Int))).put (some 125) (.slice Ab kk cb)).put (some 127) (.slice Af N60 cf)).put (some 129) (.slice (some ⟨g10, 0, none⟩) 1 1)).put (some 130) (v11)).put (some 131) (.slice (some ⟨g12, 0, none⟩) 1 1)).put (some 134) (.slice (some ⟨g15, 0, none⟩) 2 2)).put (some 136) (.slice (some ⟨g17, 0, none⟩) 1 1)) W from by
     intro Af cf g10 v11 g12 g15 g17 W T
     apply GIN.out
     refine wpAny_ready (rs := [13]) (by kernel_rfl) (by simp) ?_
     refine aC (o := kLawK_4) (fun K hK => ?_) aN
     refine wp_callv 41 #[.slice (some ⟨g12, 0, none⟩) 1 1] (run_k41_13 _ _) (by simp [ev_ne, ev_eq, sz_put, HSZ.out]) ?_
     refine (HST.out _ _ (rd_blk T.out.b12)).mono ?_
     rintro e w1 ⟨v, rfl, ho, hb⟩
     obtain ⟨As, cs, rfl, hcap, hnil, hrd⟩ := own_form ho
     refine ⟨_, rfl, hK _ _ ?_⟩
     clear hK K
     have T1 := Lh (((T.out.d12).below hb).strs hrd hnil)
     refine GOUT.out _ _ _ _ ?_
     dsimp only
     rw [pc 136 132, pc 134 132]
     exact s8.out Af cf g10 v11 g12 As cs g15 g17 _ T1)
    have s13 := Lh (show ∀ Af cf g10 v11 g12 g15 W, Hid (TeS W15 bn (N60 ≤ cf) R60 XX1 [] [] L1 0 true true false false Af v11 none none none (some g12) (some g15) none W) → G 8 #[tt, tt, tt, tt, tt, tt, tt, tt, tt, tt, tt, tt, tt, ff, ff, tt, ff, ff, ff, ff, ff, ff] (((((((a0.put (some 124) (.int .i64 (kk : Int))).put (some 125) (.slice Ab kk cb)).put (some 127) (.slice Af N60 cf)).put (some 129) (.slice (some ⟨g10, 0, none⟩) 1 1)).put (some 130) (v11)).put (some 131) (.slice (some ⟨g12, 0, none⟩) 1 1)).put (some 134) (.slice (some ⟨g15, 0, none⟩) 2 2)) W from by
     intro Af cf g10 v11 g12 g15 W T
     apply GIN.out
     refine wpAny_ready (rs := [13, 17]) (by kernel_rfl) (by simp) ?_
     refine aC (o := kLawK_4) (fun K hK => ?_) (aC (o := kLawK_0) (fun K hK => ?_) aN)
     ·
      refine wp_callv 41 #[.slice (some ⟨g12, 0, none⟩) 1 1] (run_k41_13 _ _) (by simp [ev_ne, ev_eq, sz_put, HSZ.out]) ?_
      refine (HST.out _ _ (rd_blk T.out.b12)).mono ?_
      rintro e w1 ⟨v, rfl, ho, hb⟩
      obtain ⟨As, cs, rfl, hcap, hnil, hrd⟩ := own_form ho
      refine ⟨_, rfl, hK _ _ ?_⟩
      clear hK K
      have T1 := Lh (((T.out.d12).below hb).strs hrd hnil)
      refine GOUT.out _ _ _ _ ?_
      dsimp only
      rw [pc 134 132]
      exact s9.out Af cf g10 v11 g12 As cs g15 _ T1
     ·
      refine al17 T.out fun g17 W1 T1 => hK _ _ (GOUT.out _ _ _ _ ?_)
      exact s12.out Af cf g10 v11 g12 g15 g17 _ T1)
    have s14 := Lh (show ∀ Af cf g10 v11 g12 g17 W, Hid (TeS W15 bn (N60 ≤ cf) R60 XX1 [] [] L1 0 true true false false Af v11 none none none (some g12) none (some g17) W) → G 8 #[tt, tt, tt, tt, tt, tt, tt, tt, tt, tt, tt, tt, tt, ff, ff, ff, ff, tt, ff, ff, ff, ff] (((((((a0.put (some 124) (.int .i64 (kk : Int))).put (some 125) (.slice Ab kk cb)).put (some 127) (.slice Af N60 cf)).put (some 129) (.slice (some ⟨g10, 0, none⟩) 1 1)).put (some 130) (v11)).put (some 131) (.slice (some ⟨g12, 0, none⟩) 1 1)).put (some 136) (.slice (some ⟨g17, 0, none⟩) 1 1)) W from by
     intro Af cf g10 v11 g12 g17 W T
     apply GIN.out
     refine wpAny_ready (rs := [13, 15]) (by kernel_rfl) (by simp) ?_
     refine aC (o := kLawK_4) (fun K hK => ?_) (aC (o := kLawK_2) (fun K hK => ?_) aN)
     ·
      refine wp_callv 41 #[.slice (some ⟨g12, 0, none⟩) 1 1] (run_k41_13 _ _) (by simp [ev_ne, ev_eq, sz_put, HSZ.out]) ?_
      refine (HST.out _ _ (rd_blk T.out.b12)).mono ?_
      rintro e w1 ⟨v, rfl, ho, hb⟩
      obtain ⟨As, cs, rfl, hcap, hnil, hrd⟩ := own_form ho
      refine ⟨_, rfl, hK _ _ ?_⟩
      clear hK K
      have T1 := Lh (((T.out.d12).below hb).strs hrd hnil)
      refine GOUT.out _ _ _ _ ?_
      dsimp only
      rw [pc 136 132]
      exact s10.out Af cf g10 v11 g12 As cs g17 _ T1
     ·
      refine al15 T.out fun g15 W1 T1 => hK _ _ (GOUT.out _ _ _ _ ?_)
      rw [pc 136 134]
      exact s12.out Af cf g10 v11 g12 g15 g17 _ T1)
    have s15 := Lh (show ∀ Af cf g10 v11 g12 W, Hid (TeS W15 bn (N60 ≤ cf) R60 XX1 [] [] L1 0 true true false false Af v11 none none none (some g12) none none W) → G 9 #[tt, tt, tt, tt, tt, tt, tt, tt, tt, tt, tt, tt, tt, ff, ff, ff, ff, ff, ff, ff, ff, ff] ((((((a0.put (some 124) (.int .i64 (kk : Int))).put (some 125) (.slice Ab kk cb)).put (some 127) (.slice Af N60 cf)).put (some 129) (.slice (some ⟨g10, 0, none⟩) 1 1)).put (some 130) (v11)).put (some 131) (.slice (some ⟨g12, 0, none⟩) 1 1)) W from by
     intro Af cf g10 v11 g12 W T
     apply GIN.out
     refine wpAny_ready (rs := [13, 15, 17]) (by kernel_rfl) (by simp) ?_
     refine aC (o := kLawK_4) (fun K hK => ?_) (aC (o := kLawK_2) (fun K hK => ?_) (aC (o := kLawK_0) (fun K hK => ?_) aN))
     ·
      refine wp_callv 41 #[.slice (some ⟨g12, 0, none⟩) 1 1] (run_k41_13 _ _) (by simp [ev_ne, ev_eq, sz_put, HSZ.out]) ?_
      refine (HST.out _ _ (rd_blk T.out.b12)).mono ?_
      rintro e w1 ⟨v, rfl, ho, hb⟩
      obtain ⟨As, cs, rfl, hcap, hnil, hrd⟩ := own_form ho
      refine ⟨_, rfl, hK _ _ ?_⟩
      clear hK K
      have T1 := Lh (((T.out.d12).below hb).strs hrd hnil)
      refine GOUT.out _ _ _ _ ?_
      dsimp only
      exact s11.out Af cf g10 v11 g12 As cs _ T1
     ·
      refine al15 T.out fun g15 W1 T1 => hK _ _ (GOUT.out _ _ _ _ ?_)
      exact s13.out Af cf g10 v11 g12 g15 _ T1
     ·
      refine al17 T.out fun g17 W1 T1 => hK _ _ (GOUT.out _ _ _ _ ?_)
      exact s14.out Af cf g10 v11 g12 g17 _ T1)
    have s16 := Lh (show ∀ Af cf g10 v11 g15 g17 W, Hid (TeS W15 bn (N60 ≤ cf) R60 XX1 [] [] L1 0 true true false false Af v11 none none none none (some g15) (some g17) W) → G 8 #[tt, tt, tt, tt, tt, tt, tt, tt, tt, tt, tt, tt, ff, ff, ff, tt, ff, tt, ff, ff, ff, ff] (((((((a0.put (some 124) (.int .i64 (kk : Int))).put (some 125) (.slice Ab kk cb)).put (some 127) (.slice Af N60 cf)).put (some 129) (.slice (some ⟨g10, 0, none⟩) 1 1)).put (some 130) (v11)).put (some 134) (.slice (some ⟨g15, 0, none⟩) 2 2)).put (some 136) (.slice (some ⟨g17, 0, none⟩) 1 1)) W from by
     intro Af cf g10 v11 g15 g17 W T
     apply GIN.out
     refine wpAny_ready (rs := [12]) (by kernel_rfl) (by simp) ?_
     refine aC (o := kLawK_5) (fun K hK => ?_) aN
     refine al12 T.out fun g12 W1 T1 => hK _ _ (GOUT.out _ _ _ _ ?_)
     rw [pc 136 131, pc 134 131]
     exact s12.out Af cf g10 v11 g12 g15 g17 _ T1)
    have s17 := Lh (show ∀ Af cf g10 v11 g15 W, Hid (TeS W15 bn (N60 ≤ cf) R60 XX1 [] [] L1 0 true true false false Af v11 none none none none (some g15) none W) → G 9 #[tt, tt, tt, tt, tt, tt, tt, tt, tt, tt, tt, tt, ff, ff, ff, tt, ff, ff, ff, ff, ff, ff] ((((((a0.put (some 124) (.int .i64 (kk : Int))).put (some 125) (.slice Ab kk cb)).put (some 127) (.slice Af N60 cf)).put (some 129) (.slice (some ⟨g10, 0, none⟩) 1 1)).put (some 130) (v11)).put (some 134) (.slice (some ⟨g15, 0, none⟩) 2 2)) W from by
     intro Af cf g10 v11 g15 W T
     apply GIN.out
     refine wpAny_ready (rs := [12, 17]) (by kernel_rfl) (by simp) ?_
     refine aC (o := kLawK_5) (fun K hK => ?_) (aC (o := kLawK_0) (fun K hK => ?_) aN)
     ·
      refine al12 T.out fun g12 W1 T1 => hK _ _ (GOUT.out _ _ _ _ ?_)
      rw [pc 134 131]
      exact s13.out Af cf g10 v11 g12 g15 _ T1
     ·
      refine al17 T.out fun g17 W1 T1 => hK _ _ (GOUT.out _ _ _ _ ?_)
      exact s16.out Af cf g10 v11 g15 g17 _ T1)
    have s18 := Lh (show ∀ Af cf g10 v11 g17 W, Hid (TeS W15 bn (N60 ≤ cf) R60 XX1 [] [] L1 0 true true false false Af v11 none none none none none (some g17) W) → G 9 #[tt, tt, tt, tt, tt, tt, tt, tt, tt, tt, tt, tt, ff, ff, ff, ff, ff, tt, ff, ff, ff, ff] ((((((a0.put (some 124) (.int .i64 (kk : Int))).put (some 125) (.slice Ab kk cb)).put (some 127) (.slice Af N60 cf)).put (some 129) (.slice (some ⟨g10, 0, none⟩) 1 1)).put (some 130) (v11)).put (some 136) (.slice (some ⟨g17, 0, none⟩) 1 1)) W from by
     intro Af cf g10 v11 g17 W T
     apply GIN.out
     refine wpAny_ready (rs := [12, 15]) (by kernel_rfl) (by simp) ?_
     refine aC (o := kLawK_5) (fun K hK => ?_) (aC (o := kLawK_2) (fun K hK => ?_) aN)
     ·
      refine al12 T.out fun g12 W1 T1 => hK _ _ (GOUT.out _ _ _ _ ?_)
      rw [pc 136 131]
      exact s14.out Af cf g10 v11 g12 g17 _ T1
     ·
      refine al15 T.out fun g15 W1 T1 => hK _ _ (GOUT.out _ _ _ _ ?_)
      rw [pc 136 134]
      exact s16.out Af cf g10 v11 g15 g17 _ T1)
    have s19 := Lh (show ∀ Af cf g10 v11 W, Hid (TeS W15 bn (N60 ≤ cf) R60 XX1 [] [] L1 0 true true false false Af v11 none none none none none none W) → G 10 #[tt, tt, tt, tt, tt, tt, tt, tt, tt, tt, tt, tt, ff, ff, ff, ff, ff, ff, ff, ff, ff, ff] (((((a0.put (some 124) (.int .i64 (kk : Int))).put (some 125) (.slice Ab kk cb)).put (some 127) (.slice Af N60 cf)).put (some 129) (.slice (some ⟨g10, 0, none⟩) 1 1)).put (some 130) (v11)) W from by
     intro Af cf g10 v11 W T
     apply GIN.out
     refine wpAny_ready (rs := [12, 15, 17]) (by kernel_rfl) (by simp) ?_
     refine aC (o := kLawK_5) (fun K hK => ?_) (aC (o := kLawK_2) (fun K hK => ?_) (aC (o := kLawK_0) (fun K hK => ?_) aN))
     ·
      refine al12 T.out fun g12 W1 T1 => hK _ _ (GOUT.out _ _ _ _ ?_)
      exact s15.out Af cf g10 v11 g12 _ T1
     ·
      refine al15 T.out fun g15 W1 T1 => hK _ _ (GOUT.out _ _ _ _ ?_)
      exact s17.out Af cf g10 v11 g15 _ T1
     ·
      refine al17 T.out fun g17 W1 T1 => hK _ _ (GOUT.out _ _ _ _ ?_)
      exact s18.out Af cf g10 v11 g17 _ T1)
    have s20 := Lh (show ∀ Af cf g10 g12 g15 g17 W, Hid (TeS W15 bn (N60 ≤ cf) R60 [] [] [] 0 0 true false false false Af (.int .i64 0) none none (some g10) (some g12) (some g15) (some g17) W) → G 8 #[tt, tt, tt, tt, tt, tt, tt, tt, tt, tt, tt, ff, tt, ff, ff, tt, ff, tt, ff, ff, ff, ff] (((((((a0.put (some 124) (.int .i64 (kk : Int))).put (some 125) (.slice Ab kk cb)).put (some 127) (.slice Af N60 cf)).put (some 129) (.slice (some ⟨g10, 0, none⟩) 1 1)).put (some 131) (.slice (some ⟨g12, 0, none⟩) 1 1)).put (some 134) (.slice (some ⟨g15, 0, none⟩) 2 2)).put (some 136) (.slice (some ⟨g17, 0, none⟩) 1 1)) W from by
     intro Af cf g10 g12 g15 g17 W T
     apply GIN.out
     refine wpAny_ready (rs := [11]) (by kernel_rfl) (by simp) ?_
     refine aC (o := kLawK_6) (fun K hK => ?_) aN
     refine wp_callv 40 #[.slice (some ⟨g10, 0, none⟩) 1 1] (run_k40_11 _ _) (by simp [ev_ne, ev_eq, sz_put, HSZ.out]) ?_
     refine (HI1.out _ _ (rd_blk T.out.b10)).mono ?_
     rintro e w1 ⟨v11, rfl, ho, hb⟩
     refine ⟨_, rfl, hK _ _ ?_⟩
     clear hK K
     have T1 := Lh ((T.out.d10).ints hb ho)
     refine GOUT.out _ _ _ _ ?_
     dsimp only
     rw [pc 136 130, pc 134 130, pc 131 130]
     exact s12.out Af cf g10 v11 g12 g15 g17 _ T1)
    have s21 := Lh (show ∀ Af cf g10 g12 g15 W, Hid (TeS W15 bn (N60 ≤ cf) R60 [] [] [] 0 0 true false false false Af (.int .i64 0) none none (some g10) (some g12) (some g15) none W) → G 9 #[tt, tt, tt, tt, tt, tt, tt, tt, tt, tt, tt, ff, tt, ff, ff, tt, ff, ff, ff, ff, ff, ff] ((((((a0.put (some 124) (.int .i64 (kk : Int))).put (some 125) (.slice Ab kk cb)).put (some 127) (.slice Af N60 cf)).put (some 129) (.slice (some ⟨g10, 0, none⟩) 1 1)).put (some 131) (.slice (some ⟨g12, 0, none⟩) 1 1)).put (some 134) (.slice (some ⟨g15, 0, none⟩) 2 2)) W from by
     intro Af cf g10 g12 g15 W T
     apply GIN.out
     refine wpAny_ready (rs := [11, 17]) (by kernel_rfl) (by simp) ?_
     refine aC (o := kLawK_6) (fun K hK => ?_) (aC (o := kLawK_0) (fun K hK => ?_) aN)
     ·
      refine wp_callv 40 #[.slice (some ⟨g10, 0, none⟩) 1 1] (run_k40_11 _ _) (by simp [ev_ne, ev_eq, sz_put, HSZ.out]) ?_
      refine (HI1.out _ _ (rd_blk T.out.b10)).mono ?_
      rintro e w1 ⟨v11, rfl, ho, hb⟩
      refine ⟨_, rfl, hK _ _ ?_⟩
      clear hK K
      have T1 := Lh ((T.out.d10).ints hb ho)
      refine GOUT.out _ _ _ _ ?_
      dsimp only
      rw [pc 134 130, pc 131 130]
      exact s13.out Af cf g10 v11 g12 g15 _ T1
     ·
      refine al17 T.out fun g17 W1 T1 => hK _ _ (GOUT.out _ _ _ _ ?_)
      exact s20.out Af cf g10 g12 g15 g17 _ T1)
    have s22 := Lh (show ∀ Af cf g10 g12 g17 W, Hid (TeS W15 bn (N60 ≤ cf) R60 [] [] [] 0 0 true false false false Af (.int .i64 0) none none (some g10) (some g12) none (some g17) W) → G 9 #[tt, tt, tt, tt, tt, tt, tt, tt, tt, tt, tt, ff, tt, ff, ff, ff, ff, tt, ff, ff, ff, ff] ((((((a0.put (some 124) (.int .i64 (kk : Int))).put (some 125) (.slice Ab kk cb)).put (some 127) (.slice Af N60 cf)).put (some 129) (.slice (some ⟨g10, 0, none⟩) 1 1)).put (some 131) (.slice (some ⟨g12, 0, none⟩) 1 1)).put (some 136) (.slice (some ⟨g17, 0, none⟩) 1 1)) W from by
     intro Af cf g10 g12 g17 W T
     apply GIN.out
     refine wpAny_ready (rs := [11, 15]) (by kernel_rfl) (by simp) ?_
     refine aC (o := kLawK_6) (fun K hK => ?_) (aC (o := kLawK_2) (fun K hK => ?_) aN)
     ·
      refine wp_callv 40 #[.slice (some ⟨g10, 0, none⟩) 1 1] (run_k40_11 _ _) (by simp [ev_ne, ev_eq, sz_put, HSZ.out]) ?_
      refine (HI1.out _ _ (rd_blk T.out.b10)).mono ?_
      rintro e w1 ⟨v11, rfl, ho, hb⟩
      refine ⟨_, rfl, hK _ _ ?_⟩
      clear hK K
      have T1 := Lh ((T.out.d10).ints hb ho)
      refine GOUT.out _ _ _ _ ?_
      dsimp only
      rw [pc 136 130, pc 131 130]
      exact s14.out Af cf g10 v11 g12 g17 _ T1
     ·
      refine al15 T.out fun g15 W1 T1 => hK _ _ (GOUT.out _ _ _ _ ?_)
      rw [pc 136 134]
      exact s20.out Af cf g10 g12 g15 g17 _ T1)
    have s23 := Lh (show ∀ Af cf g10 g12 W, Hid (TeS W15 bn (N60 ≤ cf) R60 [] [] [] 0 0 true false false false Af (.int .i64 0) none none (some g10) (some g12) none none W) → G 10 #[tt, tt, tt, tt, tt, tt, tt, tt, tt, tt, tt, ff, tt, ff, ff, ff, ff, ff, ff, ff, ff, ff] (((((a0.put (some 124) (.int .i64 (kk : Int))).put (some 125) (.slice Ab kk cb)).put (some 127) (.slice Af N60 cf)).put (some 129) (.slice (some ⟨g10, 0, none⟩) 1 1)).put (some 131) (.slice (some ⟨g12, 0, none⟩) 1 1)) W from by
     intro Af cf g10 g12 W T
     apply GIN.out
     refine wpAny_ready (rs := [11, 15, 17]) (by kernel_rfl) (by simp) ?_
     refine aC (o := kLawK_6) (fun K hK => ?_) (aC (o := kLawK_2) (fun K hK => ?_) (aC (o := kLawK_0) (fun K hK => ?_) aN))
     ·
      refine wp_callv 40 #[.slice (some ⟨g10, 0, none⟩) 1 1] (run_k40_11 _ _) (by simp [ev_ne, ev_eq, sz_put, HSZ.out]) ?_
      refine (HI1.out _ _ (rd_blk T.out.b10)).mono ?_
      rintro e w1 ⟨v11, rfl, ho, hb⟩
      refine ⟨_, rfl, hK _ _ ?_⟩
      clear hK K
      have T1 := Lh ((T.out.d10).ints hb ho)
      refine GOUT.out _ _ _ _ ?_
      dsimp only
      rw [pc 131 130]
      exact s15.out Af cf g10 v11 g12 _ T1
     ·
      refine al15 T.out fun g15 W1 T1 => hK _ _ (GOUT.out _ _ _ _ ?_)
      exact s21.out Af cf g10 g12 g15 _ T1
     ·
      refine al17 T.out fun g17 W1 T1 => hK _ _ (GOUT.out _ _ _ _ ?_)
      exact s22.out Af cf g10 g12 g17 _ T1)
    have s24 := Lh (show ∀ Af cf g10 g15 g17 W, Hid (TeS W15 bn (N60 ≤ cf) R60 [] [] [] 0 0 true false false false Af (.int .i64 0) none none (some g10) none (some g15) (some g17) W) → G 9 #[tt, tt, tt, tt, tt, tt, tt, tt, tt, tt, tt, ff, ff, ff, ff, tt, ff, tt, ff, ff, ff, ff] ((((((a0.put (some 124) (.int .i64 (kk : Int))).put (some 125) (.slice Ab kk cb)).put (some 127) (.slice Af N60 cf)).put (some 129) (.slice (some ⟨g10, 0, none⟩) 1 1)).put (some 134) (.slice (some ⟨g15, 0, none⟩) 2 2)).put (some 136) (.slice (some ⟨g17, 0, none⟩) 1 1)) W from by
     intro Af cf g10 g15 g17 W T
     apply GIN.out
     refine wpAny_ready (rs := [11, 12]) (by kernel_rfl) (by simp) ?_
     refine aC (o := kLawK_6) (fun K hK => ?_) (aC (o := kLawK_5) (fun K hK => ?_) aN)
     ·
      refine wp_callv 40 #[.slice (some ⟨g10, 0, none⟩) 1 1] (run_k40_11 _ _) (by simp [ev_ne, ev_eq, sz_put, HSZ.out]) ?_
      refine (HI1.out _ _ (rd_blk T.out.b10)).mono ?_
      rintro e w1 ⟨v11, rfl, ho, hb⟩
      refine ⟨_, rfl, hK _ _ ?_⟩
      clear hK K
      have T1 := Lh ((T.out.d10).ints hb ho)
      refine GOUT.out _ _ _ _ ?_
      dsimp only
      rw [pc 136 130, pc 134 130]
      exact s16.out Af cf g10 v11 g15 g17 _ T1
     ·
      refine al12 T.out fun g12 W1 T1 => hK _ _ (GOUT.out _ _ _ _ ?_)
      rw [pc 136 131, pc 134 131]
      exact s20.out Af cf g10 g12 g15 g17 _ T1)
    have s25 := Lh (show ∀ Af cf g10 g15 W, Hid (TeS W15 bn (N60 ≤ cf) R60 [] [] [] 0 0 true false false false Af (.int .i64 0) none none (some g10) none (some g15) none W) → G 10 #[tt, tt, tt, tt, tt, tt, tt, tt, tt, tt, tt, ff, ff, ff, ff, tt, ff, ff, ff, ff, ff, ff] (((((a0.put (some 124) (.int .i64 (kk : Int))).put (some 125) (.slice Ab kk cb)).put (some 127) (.slice Af N60 cf)).put (some 129) (.slice (some ⟨g10, 0, none⟩) 1 1)).put (some 134) (.slice (some ⟨g15, 0, none⟩) 2 2)) W from by
     intro Af cf g10 g15 W T
     apply GIN.out
     refine wpAny_ready (rs := [11, 12, 17]) (by kernel_rfl) (by simp) ?_
     refine aC (o := kLawK_6) (fun K hK => ?_) (aC (o := kLawK_5) (fun K hK => ?_) (aC (o := kLawK_0) (fun K hK => ?_) aN))
     ·
      refine wp_callv 40 #[.slice (some ⟨g10, 0, none⟩) 1 1] (run_k40_11 _ _) (by simp [ev_ne, ev_eq, sz_put, HSZ.out]) ?_
      refine (HI1.out _ _ (rd_blk T.out.b10)).mono ?_
      rintro e w1 ⟨v11, rfl, ho, hb⟩
      refine ⟨_, rfl, hK _ _ ?_⟩
      clear hK K
      have T1 := Lh ((T.out.d10).ints hb ho)
      refine GOUT.out _ _ _ _ ?_
      dsimp only
      rw [pc 134 130]
      exact s17.out Af cf g10 v11 g15 _ T1
     ·
      refine al12 T.out fun g12 W1 T1 => hK _ _ (GOUT.out _ _ _ _ ?_)
      rw [pc 134 131]
      exact s21.out Af cf g10 g12 g15 _ T1
     ·
      refine al17 T.out fun g17 W1 T1 => hK _ _ (GOUT.out _ _ _ _ ?_)
      exact s24.out Af cf g10 g15 g17 _ T1)
    have s26 := Lh (show ∀ Af cf g10 g17 W, Hid (TeS W15 bn (N60 ≤ cf) R60 [] [] [] 0 0 true false false false Af (.int .i64 0) none none (some g10) none none (some g17) W) → G 10 #[tt, tt, tt, tt, tt, tt, tt, tt, tt, tt, tt, ff, ff, ff, ff, ff, ff, tt, ff, ff, ff, ff] (((((a0.put (some 124) (.int .i64 (kk : Int))).put (some 125) (.slice Ab kk cb)).put (some 127) (.slice Af N60 cf)).put (some 129) (.slice (some ⟨g10, 0, none⟩) 1 1)).put (some 136) (.slice (some ⟨g17, 0, none⟩) 1 1)) W from by
     intro Af cf g10 g17 W T
     apply GIN.out
     refine wpAny_ready (rs := [11, 12, 15]) (by kernel_rfl) (by simp) ?_
     refine aC (o := kLawK_6) (fun K hK => ?_) (aC (o := kLawK_5) (fun K hK => ?_) (aC (o := kLawK_2) (fun K hK => ?_) aN))
     ·
      refine wp_callv 40 #[.slice (some ⟨g10, 0, none⟩) 1 1] (run_k40_11 _ _) (by simp [ev_ne, ev_eq, sz_put, HSZ.out]) ?_
      refine (HI1.out _ _ (rd_blk T.out.b10)).mono ?_
      rintro e w1 ⟨v11, rfl, ho, hb⟩
      refine ⟨_, rfl, hK _ _ ?_⟩
      clear hK K
      have T1 := Lh ((T.out.d10).ints hb ho)
      refine GOUT.out _ _ _ _ ?_
      dsimp only
      rw [pc 136 130]
      exact s18.out Af cf g10 v11 g17 _ T1
     ·
      refine al12 T.out fun g12 W1 T1 => hK _ _ (GOUT.out _ _ _ _ ?_)
      rw [pc 136 131]
      exact s22.out Af cf g10 g12 g17 _ T1
     ·
      refine al15 T.out fun g15 W1 T1 => hK _ _ (GOUT.out _ _ _ _ ?_)
      rw [pc 136 134]
      exact s24.out Af cf g10 g15 g17 _ T1)
    have s27 := Lh (show ∀ Af cf g10 W, Hid (TeS W15 bn (N60 ≤ cf) R60 [] [] [] 0 0 true false false false Af (.int .i64 0) none none (some g10) none none none W) → G 11 #[tt, tt, tt, tt, tt, tt, tt, tt, tt, tt, tt, ff, ff, ff, ff, ff, ff, ff, ff, ff, ff, ff] ((((a0.put (some 124) (.int .i64 (kk : Int))).put (some 125) (.slice Ab kk cb)).put (some 127) (.slice Af N60 cf)).put (some 129) (.slice (some ⟨g10, 0, none⟩) 1 1)) W from by
     intro Af cf g10 W T
     apply GIN.out
     refine wpAny_ready (rs := [11, 12, 15, 17]) (by kernel_rfl) (by simp) ?_
     refine aC (o := kLawK_6) (fun K hK => ?_) (aC (o := kLawK_5) (fun K hK => ?_) (aC (o := kLawK_2) (fun K hK => ?_) (aC (o := kLawK_0) (fun K hK => ?_) aN)))
     ·
      refine wp_callv 40 #[.slice (some ⟨g10, 0, none⟩) 1 1] (run_k40_11 _ _) (by simp [ev_ne, ev_eq, sz_put, HSZ.out]) ?_
      refine (HI1.out _ _ (rd_blk T.out.b10)).mono ?_
      rintro e w1 ⟨v11, rfl, ho, hb⟩
      refine ⟨_, rfl, hK _ _ ?_⟩
      clear hK K
      have T1 := Lh ((T.out.d10).ints hb ho)
      refine GOUT.out _ _ _ _ ?_
      dsimp only
      exact s19.out Af cf g10 v11 _ T1
     ·
      refine al12 T.out fun g12 W1 T1 => hK _ _ (GOUT.out _ _ _ _ ?_)
      exact s23.out Af cf g10 g12 _ T1
     ·
      refine al15 T.out fun g15 W1 T1 => hK _ _ (GOUT.out _ _ _ _ ?_)
      exact s25.out Af cf g10 g15 _ T1
     ·
      refine al17 T.out fun g17 W1 T1 => hK _ _ (GOUT.out _ _ _ _ ?_)
      exact s26.out Af cf g10 g17 _ T1)
    have s28 := Lh (show ∀ Af cf g12 g15 g17 W, Hid (TeS W15 bn (N60 ≤ cf) R60 [] [] [] 0 0 true false false false Af (.int .i64 0) none none none (some g12) (some g15) (some g17) W) → G 9 #[tt, tt, tt, tt, tt, tt, tt, tt, tt, tt, ff, ff, tt, ff, ff, tt, ff, tt, ff, ff, ff, ff] ((((((a0.put (some 124) (.int .i64 (kk : Int))).put (some 125) (.slice Ab kk cb)).put (some 127) (.slice Af N60 cf)).put (some 131) (.slice (some ⟨g12, 0, none⟩) 1 1)).put (some 134) (.slice (some ⟨g15, 0, none⟩) 2 2)).put (some 136) (.slice (some ⟨g17, 0, none⟩) 1 1)) W from by
     intro Af cf g12 g15 g17 W T
     apply GIN.out
     refine wpAny_ready (rs := [10]) (by kernel_rfl) (by simp) ?_
     refine aC (o := kLawK_7) (fun K hK => ?_) aN
     refine al10 (by simp [ev_ne, ev_eq, sz_put, HSZ.out, E128.out]) T.out fun g10 W1 T1 => hK _ _ (GOUT.out _ _ _ _ ?_)
     rw [pc 136 129, pc 134 129, pc 131 129]
     exact s20.out Af cf g10 g12 g15 g17 _ T1)
    have s29 := Lh (show ∀ Af cf g12 g15 W, Hid (TeS W15 bn (N60 ≤ cf) R60 [] [] [] 0 0 true false false false Af (.int .i64 0) none none none (some g12) (some g15) none W) → G 10 #[tt, tt, tt, tt, tt, tt, tt, tt, tt, tt, ff, ff, tt, ff, ff, tt, ff, ff, ff, ff, ff, ff] (((((a0.put (some 124) (.int .i64 (kk : Int))).put (some 125) (.slice Ab kk cb)).put (some 127) (.slice Af N60 cf)).put (some 131) (.slice (some ⟨g12, 0, none⟩) 1 1)).put (some 134) (.slice (some ⟨g15, 0, none⟩) 2 2)) W from by
     intro Af cf g12 g15 W T
     apply GIN.out
     refine wpAny_ready (rs := [10, 17]) (by kernel_rfl) (by simp) ?_
     refine aC (o := kLawK_7) (fun K hK => ?_) (aC (o := kLawK_0) (fun K hK => ?_) aN)
     ·
      refine al10 (by simp [ev_ne, ev_eq, sz_put, HSZ.out, E128.out]) T.out fun g10 W1 T1 => hK _ _ (GOUT.out _ _ _ _ ?_)
      rw [pc 134 129, pc 131 129]
      exact s21.out Af cf g10 g12 g15 _ T1
     ·
      refine al17 T.out fun g17 W1 T1 => hK _ _ (GOUT.out _ _ _ _ ?_)
      exact s28.out Af cf g12 g15 g17 _ T1)
    have s30 := Lh (show ∀ Af cf g12 g17 W, Hid (TeS W15 bn (N60 ≤ cf) R60 [] [] [] 0 0 true false false false Af (.int .i64 0) none none none (some g12) none (some g17) W) → G 10 #[tt, tt, tt, tt, tt, tt, tt, tt, tt, tt, ff, ff, tt, ff, ff, ff, ff, tt, ff, ff, ff, ff] (((((a0.put (some 124) (.int .i64 (kk : Int))).put (some 125) (.slice Ab kk cb)).put (some 127) (.slice Af N60 cf)).put (some 131) (.slice (some ⟨g12, 0, none⟩) 1 1)).put (some 136) (.slice (some ⟨g17, 0, none⟩) 1 1)) W from by
     intro Af cf g12 g17 W T
     apply GIN.out
     refine wpAny_ready (rs := [10, 15]) (by kernel_rfl) (by simp) ?_
     refine aC (o := kLawK_7) (fun K hK => ?_) (aC (o := kLawK_2) (fun K hK => ?_) aN)
     ·
      refine al10 (by simp [ev_ne, ev_eq, sz_put, HSZ.out, E128.out]) T.out fun g10 W1 T1 => hK _ _ (GOUT.out _ _ _ _ ?_)
      rw [pc 136 129, pc 131 129]
      exact s22.out Af cf g10 g12 g17 _ T1
     ·
      refine al15 T.out fun g15 W1 T1 => hK _ _ (GOUT.out _ _ _ _ ?_)
      rw [pc 136 134]
      exact s28.out Af cf g12 g15 g17 _ T1)
    have s31 := Lh (show ∀ Af cf g12 W, Hid (TeS W15 bn (N60 ≤ cf) R60 [] [] [] 0 0 true false false false Af (.int .i64 0) none none none (some g12) none none W) → G 11 #[tt, tt, tt, tt, tt, tt, tt, tt, tt, tt, ff, ff, tt, ff, ff, ff, ff, ff, ff, ff, ff, ff] ((((a0.put (some 124) (.int .i64 (kk : Int))).put (some 125) (.slice Ab kk cb)).put (some 127) (.slice Af N60 cf)).put (some 131) (.slice (some ⟨g12, 0, none⟩) 1 1)) W from by
     intro Af cf g12 W T
     apply GIN.out
     refine wpAny_ready (rs := [10, 15, 17]) (by kernel_rfl) (by simp) ?_
     refine aC (o := kLawK_7) (fun K hK => ?_) (aC (o := kLawK_2) (fun K hK => ?_) (aC (o := kLawK_0) (fun K hK => ?_) aN))
     ·
      refine al10 (by simp [ev_ne, ev_eq, sz_put, HSZ.out, E128.out]) T.out fun g10 W1 T1 => hK _ _ (GOUT.out _ _ _ _ ?_)
      rw [pc 131 129]
      exact s23.out Af cf g10 g12 _ T1
     ·
      refine al15 T.out fun g15 W1 T1 => hK _ _ (GOUT.out _ _ _ _ ?_)
      exact s29.out Af cf g12 g15 _ T1
     ·
      refine al17 T.out fun g17 W1 T1 => hK _ _ (GOUT.out _ _ _ _ ?_)
      exact s30.out Af cf g12 g17 _ T1)
    have s32 := Lh (show ∀ Af cf g15 g17 W, Hid (TeS W15 bn (N60 ≤ cf) R60 [] [] [] 0 0 true false false false Af (.int .i64 0) none none none none (some g15) (some g17) W) → G 10 #[tt, tt, tt, tt, tt, tt, tt, tt, tt, tt, ff, ff, ff, ff, ff, tt, ff, tt, ff, ff, ff, ff] (((((a0.put (some 124) (.int .i64 (kk : Int))).put (some 125) (.slice Ab kk cb)).put (some 127) (.slice Af N60 cf)).put (some 134) (.slice (some ⟨g15, 0, none⟩) 2 2)).put (some 136) (.slice (some ⟨g17, 0, none⟩) 1 1)) W from by
     intro Af cf g15 g17 W T
     apply GIN.out
     refine wpAny_ready (rs := [10, 12]) (by kernel_rfl) (by simp) ?_
     refine aC (o := kLawK_7) (fun K hK => ?_) (aC (o := kLawK_5) (fun K hK => ?_) aN)
     ·
      refine al10 (by simp [ev_ne, ev_eq, sz_put, HSZ.out, E128.out]) T.out fun g10 W1 T1 => hK _ _ (GOUT.out _ _ _ _ ?_)
      rw [pc 136 129, pc 134 129]
      exact s24.out Af cf g10 g15 g17 _ T1
     ·
      refine al12 T.out fun g12 W1 T1 => hK _ _ (GOUT.out _ _ _ _ ?_)
      rw [pc 136 131, pc 134 131]
      exact s28.out Af cf g12 g15 g17 _ T1)
    have s33 := Lh (show ∀ Af cf g15 W, Hid (TeS W15 bn (N60 ≤ cf) R60 [] [] [] 0 0 true false false false Af (.int .i64 0) none none none none (some g15) none W) → G 11 #[tt, tt, tt, tt, tt, tt, tt, tt, tt, tt, ff, ff, ff, ff, ff, tt, ff, ff, ff, ff, ff, ff] ((((a0.put (some 124) (.int .i64 (kk : Int))).put (some 125) (.slice Ab kk cb)).put (some 127) (.slice Af N60 cf)).put (some 134) (.slice (some ⟨g15, 0, none⟩) 2 2)) W from by
     intro Af cf g15 W T
     apply GIN.out
     refine wpAny_ready (rs := [10, 12, 17]) (by kernel_rfl) (by simp) ?_
     refine aC (o := kLawK_7) (fun K hK => ?_) (aC (o := kLawK_5) (fun K hK => ?_) (aC (o := kLawK_0) (fun K hK => ?_) aN))
     ·
      refine al10 (by simp [ev_ne, ev_eq, sz_put, HSZ.out, E128.out]) T.out fun g10 W1 T1 => hK _ _ (GOUT.out _ _ _ _ ?_)
      rw [pc 134 129]
      exact s25.out Af cf g10 g15 _ T1
     ·
      refine al12 T.out fun g12 W1 T1 => hK _ _ (GOUT.out _ _ _ _ ?_)
      rw [pc 134 131]
      exact s29.out Af cf g12 g15 _ T1
     ·
      refine al17 T.out fun g17 W1 T1 => hK _ _ (GOUT.out _ _ _ _ ?_)
      exact s32.out Af cf g15 g17 _ T1)
    have s34 := Lh (show ∀ Af cf g17 W, Hid (TeS W15 bn (N60 ≤ cf) R60 [] [] [] 0 0 true false false false Af (.int .i64 0) none none none none none (some g17) W) → G 11 #[tt, tt, tt, tt, tt, tt, tt, tt, tt, tt, ff, ff, ff, ff, ff, ff, ff, tt, ff, ff, ff, ff] ((((a0.put (some 124) (.int .i64 (kk : Int))).put (some 125) (.slice Ab kk cb)).put (some 127) (.slice Af N60 cf)).put (some 136) (.slice (some ⟨g17, 0, none⟩) 1 1)) W from by
     intro Af cf g17 W T
     apply GIN.out
     refine wpAny_ready (rs := [10, 12, 15]) (by kernel_rfl) (by simp) ?_
     refine aC (o := kLawK_7) (fun K hK => ?_) (aC (o := kLawK_5) (fun K hK => ?_) (aC (o := kLawK_2) (fun K hK => ?_) aN))
     ·
      refine al10 (by simp [ev_ne, ev_eq, sz_put, HSZ.out, E128.out]) T.out fun g10 W1 T1 => hK _ _ (GOUT.out _ _ _ _ ?_)
      rw [pc 136 129]
      exact s26.out Af cf g10 g17 _ T1
     ·
      refine al12 T.out fun g12 W1 T1 => hK _ _ (GOUT.out _ _ _ _ ?_)
      rw [pc 136 131]
      exact s30.out Af cf g12 g17 _ T1
     ·
      refine al15 T.out fun g15 W1 T1 => hK _ _ (GOUT.out _ _ _ _ ?_)
      rw [pc 136 134]
      exact s32.out Af cf g15 g17 _ T1)
    have s35 := Lh (show ∀ Af cf W, Hid (TeS W15 bn (N60 ≤ cf) R60 [] [] [] 0 0 true false false false Af (.int .i64 0) none none none none none none W) → G 12 #[tt, tt, tt, tt, tt, tt, tt, tt, tt, tt, ff, ff, ff, ff, ff, ff, ff, ff, ff, ff, ff, ff] (((a0.put (some 124) (.int .i64 (kk : Int))).put (some 125) (.slice Ab kk cb)).put (some 127) (.slice Af N60 cf)) W from by
     intro Af cf W T
     apply GIN.out
     refine wpAny_ready (rs := [10, 12, 15, 17]) (by kernel_rfl) (by simp) ?_
     refine aC (o := kLawK_7) (fun K hK => ?_) (aC (o := kLawK_5) (fun K hK => ?_) (aC (o := kLawK_2) (fun K hK => ?_) (aC (o := kLawK_0) (fun K hK => ?_) aN)))
     ·
      refine al10 (by simp [ev_ne, ev_eq, sz_put, HSZ.out, E128.out]) T.out fun g10 W1 T1 => hK _ _ (GOUT.out _ _ _ _ ?_)
      exact s27.out Af cf g10 _ T1
     ·
      refine al12 T.out fun g12 W1 T1 => hK _ _ (GOUT.out _ _ _ _ ?_)
      exact s31.out Af cf g12 _ T1
     ·
      refine al15 T.out fun g15 W1 T1 => hK _ _ (GOUT.out _ _ _ _ ?_)
      exact s33.out Af cf g15 _ T1
     ·
      refine al17 T.out fun g17 W1 T1 => hK _ _ (GOUT.out _ _ _ _ ?_)
      exact s34.out Af cf g17 _ T1)
    have s36 := Lh (show ∀ g10 g12 g15 g17 W, Hid (TeS W15 bn True [] [] [] [] 0 0 false false false false none (.int .i64 0) none none (some g10) (some g12) (some g15) (some g17) W) → G 9 #[tt, tt, tt, tt, tt, tt, tt, tt, ff, tt, tt, ff, tt, ff, ff, tt, ff, tt, ff, ff, ff, ff] ((((((a0.put (some 124) (.int .i64 (kk : Int))).put (some 125) (.slice Ab kk cb)).put (some 129) (.slice (some ⟨g10, 0, none⟩) 1 1)).put (some 131) (.slice (some ⟨g12, 0, none⟩) 1 1)).put (some 134) (.slice (some ⟨g15, 0, none⟩) 2 2)).put (some 136) (.slice (some ⟨g17, 0, none⟩) 1 1)) W from by
     intro g10 g12 g15 g17 W T
     apply GIN.out
     refine wpAny_ready (rs := [8]) (by kernel_rfl) (by simp) ?_
     refine aC (o := kLawK_8) (fun K hK => ?_) aN
     refine al8 (by simp [ev_ne, ev_eq, sz_put, HSZ.out, E126.out]) T.out HF60'.out fun Af cf W1 T1 => hK _ _ (GOUT.out _ _ _ _ ?_)
     rw [pc 136 127, pc 134 127, pc 131 127, pc 129 127]
     exact s20.out Af cf g10 g12 g15 g17 _ T1)
    have s37 := Lh (show ∀ g10 g12 g15 W, Hid (TeS W15 bn True [] [] [] [] 0 0 false false false false none (.int .i64 0) none none (some g10) (some g12) (some g15) none W) → G 10 #[tt, tt, tt, tt, tt, tt, tt, tt, ff, tt, tt, ff, tt, ff, ff, tt, ff, ff, ff, ff, ff, ff] (((((a0.put (some 124) (.int .i64 (kk : Int))).put (some 125) (.slice Ab kk cb)).put (some 129) (.slice (some ⟨g10, 0, none⟩) 1 1)).put (some 131) (.slice (some ⟨g12, 0, none⟩) 1 1)).put (some 134) (.slice (some ⟨g15, 0, none⟩) 2 2)) W from by
     intro g10 g12 g15 W T
     apply GIN.out
     refine wpAny_ready (rs := [8, 17]) (by kernel_rfl) (by simp) ?_
     refine aC (o := kLawK_8) (fun K hK => ?_) (aC (o := kLawK_0) (fun K hK => ?_) aN)
     ·
      refine al8 (by simp [ev_ne, ev_eq, sz_put, HSZ.out, E126.out]) T.out HF60'.out fun Af cf W1 T1 => hK _ _ (GOUT.out _ _ _ _ ?_)
      rw [pc 134 127, pc 131 127, pc 129 127]
      exact s21.out Af cf g10 g12 g15 _ T1
     ·
      refine al17 T.out fun g17 W1 T1 => hK _ _ (GOUT.out _ _ _ _ ?_)
      exact s36.out g10 g12 g15 g17 _ T1)
    have s38 := Lh (show ∀ g10 g12 g17 W, Hid (TeS W15 bn True [] [] [] [] 0 0 false false false false none (.int .i64 0) none none (some g10) (some g12) none (some g17) W) → G 10 #[tt, tt, tt, tt, tt, tt, tt, tt, ff, tt, tt, ff, tt, ff, ff, ff, ff, tt, ff, ff, ff, ff] (((((a0.put (some 124) (.int .i64 (kk : Int))).put (some 125) (.slice Ab kk cb)).put (some 129) (.slice (some ⟨g10, 0, none⟩) 1 1)).put (some 131) (.slice (some ⟨g12, 0, none⟩) 1 1)).put (some 136) (.slice (some ⟨g17, 0, none⟩) 1 1)) W from by
     intro g10 g12 g17 W T
     apply GIN.out
     refine wpAny_ready (rs := [8, 15]) (by kernel_rfl) (by simp) ?_
     refine aC (o := kLawK_8) (fun K hK => ?_) (aC (o := kLawK_2) (fun K hK => ?_) aN)
     ·
      refine al8 (by simp [ev_ne, ev_eq, sz_put, HSZ.out, E126.out]) T.out HF60'.out fun Af cf W1 T1 => hK _ _ (GOUT.out _ _ _ _ ?_)
      rw [pc 136 127, pc 131 127, pc 129 127]
      exact s22.out Af cf g10 g12 g17 _ T1
     ·
      refine al15 T.out fun g15 W1 T1 => hK _ _ (GOUT.out _ _ _ _ ?_)
      rw [pc 136 134]
      exact s36.out g10 g12 g15 g17 _ T1)
    have s39 := Lh (show ∀ g10 g12 W, Hid (TeS W15 bn True [] [] [] [] 0 0 false false false false none (.int .i64 0) none none (some g10) (some g12) none none W) → G 11 #[tt, tt, tt, tt, tt, tt, tt, tt, ff, tt, tt, ff, tt, ff, ff, ff, ff, ff, ff, ff, ff, ff] ((((a0.put (some 124) (.int .i64 (kk : Int))).put (some 125) (.slice Ab kk cb)).put (some 129) (.slice (some ⟨g10, 0, none⟩) 1 1)).put (some 131) (.slice (some ⟨g12, 0, none⟩) 1 1)) W from by
     intro g10 g12 W T
     apply GIN.out
     refine wpAny_ready (rs := [8, 15, 17]) (by kernel_rfl) (by simp) ?_
     refine aC (o := kLawK_8) (fun K hK => ?_) (aC (o := kLawK_2) (fun K hK => ?_) (aC (o := kLawK_0) (fun K hK => ?_) aN))
     ·
      refine al8 (by simp [ev_ne, ev_eq, sz_put, HSZ.out, E126.out]) T.out HF60'.out fun Af cf W1 T1 => hK _ _ (GOUT.out _ _ _ _ ?_)
      rw [pc 131 127, pc 129 127]
      exact s23.out Af cf g10 g12 _ T1
     ·
      refine al15 T.out fun g15 W1 T1 => hK _ _ (GOUT.out _ _ _ _ ?_)
      exact s37.out g10 g12 g15 _ T1
     ·
      refine al17 T.out fun g17 W1 T1 => hK _ _ (GOUT.out _ _ _ _ ?_)
      exact s38.out g10 g12 g17 _ T1)
    have s40 := Lh (show ∀ g10 g15 g17 W, Hid (TeS W15 bn True [] [] [] [] 0 0 false false false false none (.int .i64 0) none none (some g10) none (some g15) (some g17) W) → G 10 #[tt, tt, tt, tt, tt, tt, tt, tt, ff, tt, tt, ff, ff, ff, ff, tt, ff, tt, ff, ff, ff, ff] (((((a0.put (some 124) (.int .i64 (kk : Int))).put (some 125) (.slice Ab kk cb)).put (some 129) (.slice (some ⟨g10, 0, none⟩) 1 1)).put (some 134) (.slice (some ⟨g15, 0, none⟩) 2 2)).put (some 136) (.slice (some ⟨g17, 0, none⟩) 1 1)) W from by
     intro g10 g15 g17 W T
     apply GIN.out
     refine wpAny_ready (rs := [8, 12]) (by kernel_rfl) (by simp) ?_
     refine aC (o := kLawK_8) (fun K hK => ?_) (aC (o := kLawK_5) (fun K hK => ?_) aN)
     ·
      refine al8 (by simp [ev_ne, ev_eq, sz_put, HSZ.out, E126.out]) T.out HF60'.out fun Af cf W1 T1 => hK _ _ (GOUT.out _ _ _ _ ?_)
      rw [pc 136 127, pc 134 127, pc 129 127]
      exact s24.out Af cf g10 g15 g17 _ T1
     ·
      refine al12 T.out fun g12 W1 T1 => hK _ _ (GOUT.out _ _ _ _ ?_)
      rw [pc 136 131, pc 134 131]
      exact s36.out g10 g12 g15 g17 _ T1)
    have s41 := Lh (show ∀ g10 g15 W, Hid (TeS W15 bn True [] [] [] [] 0 0 false false false false none (.int .i64 0) none none (some g10) none (some g15) none W) → G 11 #[tt, tt, tt, tt, tt, tt, tt, tt, ff, tt, tt, ff, ff, ff, ff, tt, ff, ff, ff, ff, ff, ff] ((((a0.put (some 124) (.int .i64 (kk : Int))).put (some 125) (.slice Ab kk cb)).put (some 129) (.slice (some ⟨g10, 0, none⟩) 1 1)).put (some 134) (.slice (some ⟨g15, 0, none⟩) 2 2)) W from by
     intro g10 g15 W T
     apply GIN.out
     refine wpAny_ready (rs := [8, 12, 17]) (by kernel_rfl) (by simp) ?_
     refine aC (o := kLawK_8) (fun K hK => ?_) (aC (o := kLawK_5) (fun K hK => ?_) (aC (o := kLawK_0) (fun K hK => ?_) aN))
     ·
      refine al8 (by simp [ev_ne, ev_eq, sz_put, HSZ.out, E126.out]) T.out HF60'.out fun Af cf W1 T1 => hK _ _ (GOUT.out _ _ _ _ ?_)
      rw [pc 134 127, pc 129 127]
      exact s25.out Af cf g10 g15 _ T1
     ·
      refine al12 T.out fun g12 W1 T1 => hK _ _ (GOUT.out _ _ _ _ ?_)
      rw [pc 134 131]
      exact s37.out g10 g12 g15 _ T1
     ·
      refine al17 T.out fun g17 W1 T1 => hK _ _ (GOUT.out _ _ _ _ ?_)
      exact s40.out g10 g15 g17 _ T1)
    have s42 := Lh (show ∀ g10 g17 W, Hid (TeS W15 bn True [] [] [] [] 0 0 false false false false none (.int .i64 0) none none (some g10) none none (some g17) W) → G 11 #[tt, tt, tt, tt, tt, tt, tt, tt, ff, tt, tt, ff, ff, ff, ff, ff, ff, tt, ff, ff, ff, ff] ((((a0.put (some 124) (.int .i64 (kk : Int))).put (some 125) (.slice Ab kk cb)).put (some 129) (.slice (some ⟨g10, 0, none⟩) 1 1)).put (some 136) (.slice (some ⟨g17, 0, none⟩) 1 1)) W from by
     intro g10 g17 W T
     apply GIN.out
     refine wpAny_ready (rs := [8, 12, 15]) (by kernel_rfl) (by simp) ?_
     refine aC (o := kLawK_8) (fun K hK => ?_) (aC (o := kLawK_5) (fun K hK => ?_) (aC (o := kLawK_2) (fun K hK => ?_) aN))
     ·
      refine al8 (by simp [ev_ne, ev_eq, sz_put, HSZ.out, E126.out]) T.out HF60'.out fun Af cf W1 T1 => hK _ _ (GOUT.out _ _ _ _ ?_)
      rw [pc 136 127, pc 129 127]
      exact s26.out Af cf g10 g17 _ T1
     ·
      refine al12 T.out fun g12 W1 T1 => hK _ _ (GOUT.out _ _ _ _ ?_)
      rw [pc 136 131]
      exact s38.out g10 g12 g17 _ T1
     ·
      refine al15 T.out fun g15 W1 T1 => hK _ _ (GOUT.out _ _ _ _ ?_)
      rw [pc 136 134]
      exact s40.out g10 g15 g17 _ T1)
    have s43 := Lh (show ∀ g10 W, Hid (TeS W15 bn True [] [] [] [] 0 0 false false false false none (.int .i64 0) none none (some g10) none none none W) → G 12 #[tt, tt, tt, tt, tt, tt, tt, tt, ff, tt, tt, ff, ff, ff, ff, ff, ff, ff, ff, ff, ff, ff] (((a0.put (some 124) (.int .i64 (kk : Int))).put (some 125) (.slice Ab kk cb)).put (some 129) (.slice (some ⟨g10, 0, none⟩) 1 1)) W from by
     intro g10 W T
     apply GIN.out
     refine wpAny_ready (rs := [8, 12, 15, 17]) (by kernel_rfl) (by simp) ?_
     refine aC (o := kLawK_8) (fun K hK => ?_) (aC (o := kLawK_5) (fun K hK => ?_) (aC (o := kLawK_2) (fun K hK => ?_) (aC (o := kLawK_0) (fun K hK => ?_) aN)))
     ·
      refine al8 (by simp [ev_ne, ev_eq, sz_put, HSZ.out, E126.out]) T.out HF60'.out fun Af cf W1 T1 => hK _ _ (GOUT.out _ _ _ _ ?_)
      rw [pc 129 127]
      exact s27.out Af cf g10 _ T1
     ·
      refine al12 T.out fun g12 W1 T1 => hK _ _ (GOUT.out _ _ _ _ ?_)
      exact s39.out g10 g12 _ T1
     ·
      refine al15 T.out fun g15 W1 T1 => hK _ _ (GOUT.out _ _ _ _ ?_)
      exact s41.out g10 g15 _ T1
     ·
      refine al17 T.out fun g17 W1 T1 => hK _ _ (GOUT.out _ _ _ _ ?_)
      exact s42.out g10 g17 _ T1)
    have s44 := Lh (show ∀ g12 g15 g17 W, Hid (TeS W15 bn True [] [] [] [] 0 0 false false false false none (.int .i64 0) none none none (some g12) (some g15) (some g17) W) → G 10 #[tt, tt, tt, tt, tt, tt, tt, tt, ff, tt, ff, ff, tt, ff, ff, tt, ff, tt, ff, ff, ff, ff] (((((a0.put (some 124) (.int .i64 (kk : Int))).put (some 125) (.slice Ab kk cb)).put (some 131) (.slice (some ⟨g12, 0, none⟩) 1 1)).put (some 134) (.slice (some ⟨g15, 0, none⟩) 2 2)).put (some 136) (.slice (some ⟨g17, 0, none⟩) 1 1)) W from by
     intro g12 g15 g17 W T
     apply GIN.out
     refine wpAny_ready (rs := [8, 10]) (by kernel_rfl) (by simp) ?_
     refine aC (o := kLawK_8) (fun K hK => ?_) (aC (o := kLawK_7) (fun K hK => ?_) aN)
     ·
      refine al8 (by simp [ev_ne, ev_eq, sz_put, HSZ.out, E126.out]) T.out HF60'.out fun Af cf W1 T1 => hK _ _ (GOUT.out _ _ _ _ ?_)
      rw [pc 136 127, pc 134 127, pc 131 127]
      exact s28.out Af cf g12 g15 g17 _ T1
     ·
      refine al10 (by simp [ev_ne, ev_eq, sz_put, HSZ.out, E128.out]) T.out fun g10 W1 T1 => hK _ _ (GOUT.out _ _ _ _ ?_)
      rw [pc 136 129, pc 134 129, pc 131 129]
      exact s36.out g10 g12 g15 g17 _ T1)
    have s45 := Lh (show ∀ g12 g15 W, Hid (TeS W15 bn True [] [] [] [] 0 0 false false false false none (.int .i64 0) none none none (some g12) (some g15) none W) → G 11 #[tt, tt, tt, tt, tt, tt, tt, tt, ff, tt, ff, ff, tt, ff, ff, tt, ff, ff, ff, ff, ff, ff] ((((a0.put (some 124) (.int .i64 (kk : Int))).put (some 125) (.slice Ab kk cb)).put (some 131) (.slice (some ⟨g12, 0, none⟩) 1 1)).put (some 134) (.slice (some ⟨g15, 0, none⟩) 2 2)) W from by
     intro g12 g15 W T
     apply GIN.out
     refine wpAny_ready (rs := [8, 10, 17]) (by kernel_rfl) (by simp) ?_
     refine aC (o := kLawK_8) (fun K hK => ?_) (aC (o := kLawK_7) (fun K hK => ?_) (aC (o := kLawK_0) (fun K hK => ?_) aN))
     ·
      refine al8 (by simp [ev_ne, ev_eq, sz_put, HSZ.out, E126.out]) T.out HF60'.out fun Af cf W1 T1 => hK _ _ (GOUT.out _ _ _ _ ?_)
      rw [pc 134 127, pc 131 127]
      exact s29.out Af cf g12 g15 _ T1
     ·
      refine al10 (by simp [ev_ne, ev_eq, sz_put, HSZ.out, E128.out]) T.out fun g10 W1 T1 => hK _ _ (GOUT.out _ _ _ _ ?_)
      rw [pc 134 129, pc 131 129]
      exact s37.out g10 g12 g15 _ T1
     ·
      refine al17 T.out fun g17 W1 T1 => hK _ _ (GOUT.out _ _ _ _ ?_)
      exact s44.out g12 g15 g17 _ T1)
    have s46 := Lh (show ∀ g12 g17 W, Hid (TeS W15 bn True [] [] [] [] 0 0 false false false false none (.int .i64 0) none none none (some g12) none (some g17) W) → G 11 #[tt, tt, tt, tt, tt, tt, tt, tt, ff, tt, ff, ff, tt, ff, ff, ff, ff, tt, ff, ff, ff, ff] ((((a0.put (some 124) (.int .i64 (kk : Int))).put (some 125) (.slice Ab kk cb)).put (some 131) (.slice (some ⟨g12, 0, none⟩) 1 1)).put (some 136) (.slice (some ⟨g17, 0, none⟩) 1 1)) W from by
     intro g12 g17 W T
     apply GIN.out
     refine wpAny_ready (rs := [8, 10, 15]) (by kernel_rfl) (by simp) ?_
     refine aC (o := kLawK_8) (fun K hK => ?_) (aC (o := kLawK_7) (fun K hK => ?_) (aC (o := kLawK_2) (fun K hK => ?_) aN))
     ·
      refine al8 (by simp [ev_ne, ev_eq, sz_put, HSZ.out, E126.out]) T.out HF60'.out fun Af cf W1 T1 => hK _ _ (GOUT.out _ _ _ _ ?_)
      rw [pc 136 127, pc 131 127]
      exact s30.out Af cf g12 g17 _ T1
     ·
      refine al10 (by simp [ev_ne, ev_eq, sz_put, HSZ.out, E128.out]) T.out fun g10 W1 T1 => hK _ _ (GOUT.out _ _ _ _ ?_)
      rw [pc 136 129, pc 131 129]
      exact s38.out g10 g12 g17 _ T1
     ·
      refine al15 T.out fun g15 W1 T1 => hK _ _ (GOUT.out _ _ _ _ ?_)
      rw [pc 136 134]
      exact s44.out g12 g15 g17 _ T1)
    have s47 := Lh (show ∀ g12 W, Hid (TeS W15 bn True [] [] [] [] 0 0 false false false false none (.int .i64 0) none none none (some g12) none none W) → G 12 #[tt, tt, tt, tt, tt, tt, tt, tt, ff, tt, ff, ff, tt, ff, ff, ff, ff, ff, ff, ff, ff, ff] (((a0.put (some 124) (.int .i64 (kk : Int))).put (some 125) (.slice Ab kk cb)).put (some 131) (.slice (some ⟨g12, 0, none⟩) 1 1)) W from by
     intro g12 W T
     apply GIN.out
     refine wpAny_ready (rs := [8, 10, 15, 17]) (by kernel_rfl) (by simp) ?_
     refine aC (o := kLawK_8) (fun K hK => ?_) (aC (o := kLawK_7) (fun K hK => ?_) (aC (o := kLawK_2) (fun K hK => ?_) (aC (o := kLawK_0) (fun K hK => ?_) aN)))
     ·
      refine al8 (by simp [ev_ne, ev_eq, sz_put, HSZ.out, E126.out]) T.out HF60'.out fun Af cf W1 T1 => hK _ _ (GOUT.out _ _ _ _ ?_)
      rw [pc 131 127]
      exact s31.out Af cf g12 _ T1
     ·
      refine al10 (by simp [ev_ne, ev_eq, sz_put, HSZ.out, E128.out]) T.out fun g10 W1 T1 => hK _ _ (GOUT.out _ _ _ _ ?_)
      rw [pc 131 129]
      exact s39.out g10 g12 _ T1
     ·
      refine al15 T.out fun g15 W1 T1 => hK _ _ (GOUT.out _ _ _ _ ?_)
      exact s45.out g12 g15 _ T1
     ·
      refine al17 T.out fun g17 W1 T1 => hK _ _ (GOUT.out _ _ _ _ ?_)
      exact s46.out g12 g17 _ T1)
    have s48 := Lh (show ∀ g15 g17 W, Hid (TeS W15 bn True [] [] [] [] 0 0 false false false false none (.int .i64 0) none none none none (some g15) (some g17) W) → G 11 #[tt, tt, tt, tt, tt, tt, tt, tt, ff, tt, ff, ff, ff, ff, ff, tt, ff, tt, ff, ff, ff, ff] ((((a0.put (some 124) (.int .i64 (kk : Int))).put (some 125) (.slice Ab kk cb)).put (some 134) (.slice (some ⟨g15, 0, none⟩) 2 2)).put (some 136) (.slice (some ⟨g17, 0, none⟩) 1 1)) W from by
     intro g15 g17 W T
     apply GIN.out
     refine wpAny_ready (rs := [8, 10, 12]) (by kernel_rfl) (by simp) ?_
     refine aC (o := kLawK_8) (fun K hK => ?_) (aC (o := kLawK_7) (fun K hK => ?_) (aC (o := kLawK_5) (fun K hK => ?_) aN))
     ·
      refine al8 (by simp [ev_ne, ev_eq, sz_put, HSZ.out, E126.out]) T.out HF60'.out fun Af cf W1 T1 => hK _ _ (GOUT.out _ _ _ _ ?_)
      rw [pc 136 127, pc 134 127]
      exact s32.out Af cf g15 g17 _ T1
     ·
      refine al10 (by simp [ev_ne, ev_eq, sz_put, HSZ.out, E128.out]) T.out fun g10 W1 T1 => hK _ _ (GOUT.out _ _ _ _ ?_)
      rw [pc 136 129, pc 134 129]
      exact s40.out g10 g15 g17 _ T1
     ·
      refine al12 T.out fun g12 W1 T1 => hK _ _ (GOUT.out _ _ _ _ ?_)
      rw [pc 136 131, pc 134 131]
      exact s44.out g12 g15 g17 _ T1)
    have s49 := Lh (show ∀ g15 W, Hid (TeS W15 bn True [] [] [] [] 0 0 false false false false none (.int .i64 0) none none none none (some g15) none W) → G 12 #[tt, tt, tt, tt, tt, tt, tt, tt, ff, tt, ff, ff, ff, ff, ff, tt, ff, ff, ff, ff, ff, ff] (((a0.put (some 124) (.int .i64 (kk : Int))).put (some 125) (.slice Ab kk cb)).put (some 134) (.slice (some ⟨g15, 0, none⟩) 2 2)) W from by
     intro g15 W T
     apply GIN.out
     refine wpAny_ready (rs := [8, 10, 12, 17]) (by kernel_rfl) (by simp) ?_
     refine aC (o := kLawK_8) (fun K hK => ?_) (aC (o := kLawK_7) (fun K hK => ?_) (aC (o := kLawK_5) (fun K hK => ?_) (aC (o := kLawK_0) (fun K hK => ?_) aN)))
     ·
      refine al8 (by simp [ev_ne, ev_eq, sz_put, HSZ.out, E126.out]) T.out HF60'.out fun Af cf W1 T1 => hK _ _ (GOUT.out _ _ _ _ ?_)
      rw [pc 134 127]
      exact s33.out Af cf g15 _ T1
     ·
      refine al10 (by simp [ev_ne, ev_eq, sz_put, HSZ.out, E128.out]) T.out fun g10 W1 T1 => hK _ _ (GOUT.out _ _ _ _ ?_)
      rw [pc 134 129]
      exact s41.out g10 g15 _ T1
     ·
      refine al12 T.out fun g12 W1 T1 => hK _ _ (GOUT.out _ _ _ _ ?_)
      rw [pc 134 131]
      exact s45.out g12 g15 _ T1
     ·
      refine al17 T.out fun g17 W1 T1 => hK _ _ (GOUT.out _ _ _ _ ?_)
      exact s48.out g15 g17 _ T1)
    have s50 := Lh (show ∀ g17 W, Hid (TeS W15 bn True [] [] [] [] 0 0 false false false false none (.int .i64 0) none none none none none (some g17) W) → G 12 #[tt, tt, tt, tt, tt, tt, tt, tt, ff, tt, ff, ff, ff, ff, ff, ff, ff, tt, ff, ff, ff, ff] (((a0.put (some 124) (.int .i64 (kk : Int))).put (some 125) (.slice Ab kk cb)).put (some 136) (.slice (some ⟨g17, 0, none⟩) 1 1)) W from by
     intro g17 W T
     apply GIN.out
     refine wpAny_ready (rs := [8, 10, 12, 15]) (by kernel_rfl) (by simp) ?_
     refine aC (o := kLawK_8) (fun K hK => ?_) (aC (o := kLawK_7) (fun K hK => ?_) (aC (o := kLawK_5) (fun K hK => ?_) (aC (o := kLawK_2) (fun K hK => ?_) aN)))
     ·
      refine al8 (by simp [ev_ne, ev_eq, sz_put, HSZ.out, E126.out]) T.out HF60'.out fun Af cf W1 T1 => hK _ _ (GOUT.out _ _ _ _ ?_)
      rw [pc 136 127]
      exact s34.out Af cf g17 _ T1
     ·
      refine al10 (by simp [ev_ne, ev_eq, sz_put, HSZ.out, E128.out]) T.out fun g10 W1 T1 => hK _ _ (GOUT.out _ _ _ _ ?_)
      rw [pc 136 129]
      exact s42.out g10 g17 _ T1
     ·
      refine al12 T.out fun g12 W1 T1 => hK _ _ (GOUT.out _ _ _ _ ?_)
      rw [pc 136 131]
      exact s46.out g12 g17 _ T1
     ·
      refine al15 T.out fun g15 W1 T1 => hK _ _ (GOUT.out _ _ _ _ ?_)
      rw [pc 136 134]
      exact s48.out g15 g17 _ T1)
    have s51 := Lh (show ∀ W, Hid (TeS W15 bn True [] [] [] [] 0 0 false false false false none (.int .i64 0) none none none none none none W) → G 13 #[tt, tt, tt, tt, tt, tt, tt, tt, ff, tt, ff, ff, ff, ff, ff, ff, ff, ff, ff, ff, ff, ff] ((a0.put (some 124) (.int .i64 (kk : Int))).put (some 125) (.slice Ab kk cb)) W from by
     intro W T
     apply GIN.out
     refine wpAny_ready (rs := [8, 10, 12, 15, 17]) (by kernel_rfl) (by simp) ?_
     refine aC (o := kLawK_8) (fun K hK => ?_) (aC (o := kLawK_7) (fun K hK => ?_) (aC (o := kLawK_5) (fun K hK => ?_) (aC (o := kLawK_2) (fun K hK => ?_) (aC (o := kLawK_0) (fun K hK => ?_) aN))))
     ·
      refine al8 (by simp [ev_ne, ev_eq, sz_put, HSZ.out, E126.out]) T.out HF60'.out fun Af cf W1 T1 => hK _ _ (GOUT.out _ _ _ _ ?_)
      exact s35.out Af cf _ T1
     ·
      refine al10 (by simp [ev_ne, ev_eq, sz_put, HSZ.out, E128.out]) T.out fun g10 W1 T1 => hK _ _ (GOUT.out _ _ _ _ ?_)
      exact s43.out g10 _ T1
     ·
      refine al12 T.out fun g12 W1 T1 => hK _ _ (GOUT.out _ _ _ _ ?_)
      exact s47.out g12 _ T1
     ·
      refine al15 T.out fun g15 W1 T1 => hK _ _ (GOUT.out _ _ _ _ ?_)
      exact s49.out g15 _ T1
     ·
      refine al17 T.out fun g17 W1 T1 => hK _ _ (GOUT.out _ _ _ _ ?_)
      exact s50.out g17 _ T1)
    have s52 := Lh (show ∀ g10 g12 g15 g17 W, Hid (TeS W15 bn True [] [] [] [] 0 0 false false false false none (.int .i64 0) none none (some g10) (some g12) (some g15) (some g17) W) → G 11 #[tt, tt, tt, tt, tt, ff, ff, tt, ff, tt, tt, ff, tt, ff, ff, tt, ff, tt, ff, ff, ff, ff] ((((a0.put (some 129) (.slice (some ⟨g10, 0, none⟩) 1 1)).put (some 131) (.slice (some ⟨g12, 0, none⟩) 1 1)).put (some 134) (.slice (some ⟨g15, 0, none⟩) 2 2)).put (some 136) (.slice (some ⟨g17, 0, none⟩) 1 1)) W from by
     intro g10 g12 g15 g17 W T
     apply GIN.out
     refine wpAny_ready (rs := [5]) (by kernel_rfl) (by simp) ?_
     refine aC (o := kLawK_9) (fun K hK => ?_) aN
     refine al5 (by simp [ev_ne, ev_eq, sz_put, HSZ.out, E121.out]) (by simp [ev_ne, ev_eq, sz_put, HSZ.out, E123.out]) HAR.out (hK _ _ ?_)
     clear hK K
     refine tk 6 kLawK_10 (.slice Ab kk cb) (fun W => exec_k6 _ W (by simp [ev_ne, ev_eq, sz_put, HSZ.out, E120.out]) (by simp [ev_ne, ev_eq, sz_put, HSZ.out]) (HS39.out W)) ?_
     refine GOUT.out _ _ _ _ ?_
     dsimp only
     rw [pc 136 124, pc 134 124, pc 131 124, pc 129 124, pc 136 125, pc 134 125, pc 131 125, pc 129 125]
     exact s36.out g10 g12 g15 g17 _ T)
    have s53 := Lh (show ∀ g10 g12 g15 W, Hid (TeS W15 bn True [] [] [] [] 0 0 false false false false none (.int .i64 0) none none (some g10) (some g12) (some g15) none W) → G 12 #[tt, tt, tt, tt, tt, ff, ff, tt, ff, tt, tt, ff, tt, ff, ff, tt, ff, ff, ff, ff, ff, ff] (((a0.put (some 129) (.slice (some ⟨g10, 0, none⟩) 1 1)).put (some 131) (.slice (some ⟨g12, 0, none⟩) 1 1)).put (some 134) (.slice (some ⟨g15, 0, none⟩) 2 2)) W from by
     intro g10 g12 g15 W T
     apply GIN.out
     refine wpAny_ready (rs := [5, 17]) (by kernel_rfl) (by simp) ?_
     refine aC (o := kLawK_9) (fun K hK => ?_) (aC (o := kLawK_0) (fun K hK => ?_) aN)
     ·
      refine al5 (by simp [ev_ne, ev_eq, sz_put, HSZ.out, E121.out]) (by simp [ev_ne, ev_eq, sz_put, HSZ.out, E123.out]) HAR.out (hK _ _ ?_)
      clear hK K
      refine tk 6 kLawK_10 (.slice Ab kk cb) (fun W => exec_k6 _ W (by simp [ev_ne, ev_eq, sz_put, HSZ.out, E120.out]) (by simp [ev_ne, ev_eq, sz_put, HSZ.out]) (HS39.out W)) ?_
      refine GOUT.out _ _ _ _ ?_
      dsimp only
      rw [pc 134 124, pc 131 124, pc 129 124, pc 134 125, pc 131 125, pc 129 125]
      exact s37.out g10 g12 g15 _ T
     ·
      refine al17 T.out fun g17 W1 T1 => hK _ _ (GOUT.out _ _ _ _ ?_)
      exact s52.out g10 g12 g15 g17 _ T1)
    have s54 := Lh (show ∀ g10 g12 g17 W, Hid (TeS W15 bn True [] [] [] [] 0 0 false false false false none (.int .i64 0) none none (some g10) (some g12) none (some g17) W) → G 12 #[tt, tt, tt, tt, tt, ff, ff, tt, ff, tt, tt, ff, tt, ff, ff, ff, ff, tt, ff, ff, ff, ff] (((a0.put (some 129) (.slice (some ⟨g10, 0, none⟩) 1 1)).put (some 131) (.slice (some ⟨g12, 0, none⟩) 1 1)).put (some 136) (.slice (some ⟨g17, 0, none⟩) 1 1)) W from by
     intro g10 g12 g17 W T
     apply GIN.out
     refine wpAny_ready (rs := [5, 15]) (by kernel_rfl) (by simp) ?_
     refine aC (o := kLawK_9) (fun K hK => ?_) (aC (o := kLawK_2) (fun K hK => ?_) aN)
     ·
      refine al5 (by simp [ev_ne, ev_eq, sz_put, HSZ.out, E121.out]) (by simp [ev_ne, ev_eq, sz_put, HSZ.out, E123.out]) HAR.out (hK _ _ ?_)
      clear hK K
      refine tk 6 kLawK_10 (.slice Ab kk cb) (fun W => exec_k6 _ W (by simp [ev_ne, ev_eq, sz_put, HSZ.out, E120.out]) (by simp [ev_ne, ev_eq, sz_put, HSZ.out]) (HS39.out W)) ?_
      refine GOUT.out _ _ _ _ ?_
      dsimp only
      rw [pc 136 124, pc 131 124, pc 129 124, pc 136 125, pc 131 125, pc 129 125]
      exact s38.out g10 g12 g17 _ T
     ·
      refine al15 T.out fun g15 W1 T1 => hK _ _ (GOUT.out _ _ _ _ ?_)
      rw [pc 136 134]
      exact s52.out g10 g12 g15 g17 _ T1)
    have s55 := Lh (show ∀ g10 g12 W, Hid (TeS W15 bn True [] [] [] [] 0 0 false false false false none (.int .i64 0) none none (some g10) (some g12) none none W) → G 13 #[tt, tt, tt, tt, tt, ff, ff, tt, ff, tt, tt, ff, tt, ff, ff, ff, ff, ff, ff, ff, ff, ff] ((a0.put (some 129) (.slice (some ⟨g10, 0, none⟩) 1 1)).put (some 131) (.slice (some ⟨g12, 0, none⟩) 1 1)) W from by
     intro g10 g12 W T
     apply GIN.out
     refine wpAny_ready (rs := [5, 15, 17]) (by kernel_rfl) (by simp) ?_
     refine aC (o := kLawK_9) (fun K hK => ?_) (aC (o := kLawK_2) (fun K hK => ?_) (aC (o := kLawK_0) (fun K hK => ?_) aN))
     ·
      refine al5 (by simp [ev_ne, ev_eq, sz_put, HSZ.out, E121.out]) (by simp [ev_ne, ev_eq, sz_put, HSZ.out, E123.out]) HAR.out (hK _ _ ?_)
      clear hK K
      refine tk 6 kLawK_10 (.slice Ab kk cb) (fun W => exec_k6 _ W (by simp [ev_ne, ev_eq, sz_put, HSZ.out, E120.out]) (by simp [ev_ne, ev_eq, sz_put, HSZ.out]) (HS39.out W)) ?_
      refine GOUT.out _ _ _ _ ?_
      dsimp only
      rw [pc 131 124, pc 129 124, pc 131 125, pc 129 125]
      exact s39.out g10 g12 _ T
     ·
      refine al15 T.out fun g15 W1 T1 => hK _ _ (GOUT.out _ _ _ _ ?_)
      exact s53.out g10 g12 g15 _ T1
     ·
      refine al17 T.out fun g17 W1 T1 => hK _ _ (GOUT.out _ _ _ _ ?_)
      exact s54.out g10 g12 g17 _ T1)
    have s56 := Lh (show ∀ g10 g15 g17 W, Hid (TeS W15 bn True [] [] [] [] 0 0 false false false false none (.int .i64 0) none none (some g10) none (some g15) (some g17) W) → G 12 #[tt, tt, tt, tt, tt, ff, ff, tt, ff, tt, tt, ff, ff, ff, ff, tt, ff, tt, ff, ff, ff, ff] (((a0.put (some 129) (.slice (some ⟨g10, 0, none⟩) 1 1)).put (some 134) (.slice (some ⟨g15, 0, none⟩) 2 2)).put (some 136) (.slice (some ⟨g17, 0, none⟩) 1 1)) W from by
     intro g10 g15 g17 W T
     apply GIN.out
     refine wpAny_ready (rs := [5, 12]) (by kernel_rfl) (by simp) ?_
     refine aC (o := kLawK_9) (fun K hK => ?_) (aC (o := kLawK_5) (fun K hK => ?_) aN)
     ·
      refine al5 (by simp [ev_ne, ev_eq, sz_put, HSZ.out, E121.out]) (by simp [ev_ne, ev_eq, sz_put, HSZ.out, E123.out]) HAR.out (hK _ _ ?_)
      clear hK K
      refine tk 6 kLawK_10 (.slice Ab kk cb) (fun W => exec_k6 _ W (by simp [ev_ne, ev_eq, sz_put, HSZ.out, E120.out]) (by simp [ev_ne, ev_eq, sz_put, HSZ.out]) (HS39.out W)) ?_
      refine GOUT.out _ _ _ _ ?_
      dsimp only
      rw [pc 136 124, pc 134 124, pc 129 124, pc 136 125, pc 134 125, pc 129 125]
      exact s40.out g10 g15 g17 _ T
     ·
      refine al12 T.out fun g12 W1 T1 => hK _ _ (GOUT.out _ _ _ _ ?_)
      rw [pc 136 131, pc 134 131]
      exact s52.out g10 g12 g15 g17 _ T1)
    have s57 := Lh (show ∀ g10 g15 W, Hid (TeS W15 bn True [] [] [] [] 0 0 false false false false none (.int .i64 0) none none (some g10) none (some g15) none W) → G 13 #[tt, tt, tt, tt, tt, ff, ff, tt, ff, tt, tt, ff, ff, ff, ff, tt, ff, ff, ff, ff, ff, ff] ((a0.put (some 129) (.slice (some ⟨g10, 0, none⟩) 1 1)).put (some 134) (.slice (some ⟨g15, 0, none⟩) 2 2)) W from by
     intro g10 g15 W T
     apply GIN.out
     refine wpAny_ready (rs := [5, 12, 17]) (by kernel_rfl) (by simp) ?_
     refine aC (o := kLawK_9) (fun K hK => ?_) (aC (o := kLawK_5) (fun K hK => ?_) (aC (o := kLawK_0) (fun K hK => ?_) aN))
     ·
      refine al5 (by simp [ev_ne, ev_eq, sz_put, HSZ.out, E121.out]) (by simp [ev_ne, ev_eq, sz_put, HSZ.out, E123.out]) HAR.out (hK _ _ ?_)
      clear hK K
      refine tk 6 kLawK_10 (.slice Ab kk cb) (fun W => exec_k6 _ W (by simp [ev_ne, ev_eq, sz_put, HSZ.out, E120.out]) (by simp [ev_ne, ev_eq, sz_put, HSZ.out]) (HS39.out W)) ?_
      refine GOUT.out _ _ _ _ ?_
      dsimp only
      rw [pc 134 124, pc 129 124, pc 134 125, pc 129 125]
      exact s41.out g10 g15 _ T
     ·
      refine al12 T.out fun g12 W1 T1 => hK _ _ (GOUT.out _ _ _ _ ?_)
      rw [pc 134 131]
      exact s53.out g10 g12 g15 _ T1
     ·
      refine al17 T.out fun g17 W1 T1 => hK _ _ (GOUT.out _ _ _ _ ?_)
      exact s56.out g10 g15 g17 _ T1)
    have s58 := Lh (show ∀ g10 g17 W, Hid (TeS W15 bn True [] [] [] [] 0 0 false false false false none (.int .i64 0) none none (some g10) none none (some g17) W) → G 13 #[tt, tt, tt, tt, tt, ff, ff, tt, ff, tt, tt, ff, ff, ff, ff, ff, ff, tt, ff, ff, ff, ff] ((a0.put (some 129) (.slice (some ⟨g10, 0, none⟩) 1 1)).put (some 136) (.slice (some ⟨g17, 0, none⟩) 1 1)) W from by
     intro g10 g17 W T
     apply GIN.out
     refine wpAny_ready (rs := [5, 12, 15]) (by kernel_rfl) (by simp) ?_
     refine aC (o := kLawK_9) (fun K hK => ?_) (aC (o := kLawK_5) (fun K hK => ?_) (aC (o := kLawK_2) (fun K hK => ?_) aN))
     ·
      refine al5 (by simp [ev_ne, ev_eq, sz_put, HSZ.out, E121.out]) (by simp [ev_ne, ev_eq, sz_put, HSZ.out, E123.out]) HAR.out (hK _ _ ?_)
      clear hK K
      refine tk 6 kLawK_10 (.slice Ab kk cb) (fun W => exec_k6 _ W (by simp [ev_ne, ev_eq, sz_put, HSZ.out, E120.out]) (by simp [ev_ne, ev_eq, sz_put, HSZ.out]) (HS39.out W)) ?_
      refine GOUT.out _ _ _ _ ?_
      dsimp only
      rw [pc 136 124, pc 129 124, pc 136 125, pc 129 125]
      exact s42.out g10 g17 _ T
     ·
      refine al12 T.out fun g12 W1 T1 => hK _ _ (GOUT.out _ _ _ _ ?_)
      rw [pc 136 131]
      exact s54.out g10 g12 g17 _ T1
     ·
      refine al15 T.out fun g15 W1 T1 => hK _ _ (GOUT.out _ _ _ _ ?_)
      rw [pc 136 134]
      exact s56.out g10 g15 g17 _ T1)
    have s59 := Lh (show ∀ g10 W, Hid (TeS W15 bn True [] [] [] [] 0 0 false false false false none (.int .i64 0) none none (some g10) none none none W) → G 14 #[tt, tt, tt, tt, tt, ff, ff, tt, ff, tt, tt, ff, ff, ff, ff, ff, ff, ff, ff, ff, ff, ff] (a0.put (some 129) (.slice (some ⟨g10, 0, none⟩) 1 1)) W from by
     intro g10 W T
     apply GIN.out
     refine wpAny_ready (rs := [5, 12, 15, 17]) (by kernel_rfl) (by simp) ?_
     refine aC (o := kLawK_9) (fun K hK => ?_) (aC (o := kLawK_5) (fun K hK => ?_) (aC (o := kLawK_2) (fun K hK => ?_) (aC (o := kLawK_0) (fun K hK => ?_) aN)))
     ·
      refine al5 (by simp [ev_ne, ev_eq, sz_put, HSZ.out, E121.out]) (by simp [ev_ne, ev_eq, sz_put, HSZ.out, E123.out]) HAR.out (hK _ _ ?_)
      clear hK K
      refine tk 6 kLawK_10 (.slice Ab kk cb) (fun W => exec_k6 _ W (by simp [ev_ne, ev_eq, sz_put, HSZ.out, E120.out]) (by simp [ev_ne, ev_eq, sz_put, HSZ.out]) (HS39.out W)) ?_
      refine GOUT.out _ _ _ _ ?_
      dsimp only
      rw [pc 129 124, pc 129 125]
      exact s43.out g10 _ T
     ·
      refine al12 T.out fun g12 W1 T1 => hK _ _ (GOUT.out _ _ _ _ ?_)
      exact s55.out g10 g12 _ T1
     ·
      refine al15 T.out fun g15 W1 T1 => hK _ _ (GOUT.out _ _ _ _ ?_)
      exact s57.out g10 g15 _ T1
     ·
      refine al17 T.out fun g17 W1 T1 => hK _ _ (GOUT.out _ _ _ _ ?_)
      exact s58.out g10 g17 _ T1)
    have s60 := Lh (show ∀ g12 g15 g17 W, Hid (TeS W15 bn True [] [] [] [] 0 0 false false false false none (.int .i64 0) none none none (some g12) (some g15) (some g17) W) → G 12 #[tt, tt, tt, tt, tt, ff, ff, tt, ff, tt, ff, ff, tt, ff, ff, tt, ff, tt, ff, ff, ff, ff] (((a0.put (some 131) (.slice (some ⟨g12, 0, none⟩) 1 1)).put (some 134) (.slice (some ⟨g15, 0, none⟩) 2 2)).put (some 136) (.slice (some ⟨g17, 0, none⟩) 1 1)) W from by
     intro g12 g15 g17 W T
     apply GIN.out
     refine wpAny_ready (rs := [5, 10]) (by kernel_rfl) (by simp) ?_
     refine aC (o := kLawK_9) (fun K hK => ?_) (aC (o := kLawK_7) (fun K hK => ?_) aN)
     ·
      refine al5 (by simp [ev_ne, ev_eq, sz_put, HSZ.out, E121.out]) (by simp [ev_ne, ev_eq, sz_put, HSZ.out, E123.out]) HAR.out (hK _ _ ?_)
      clear hK K
      refine tk 6 kLawK_10 (.slice Ab kk cb) (fun W => exec_k6 _ W (by simp [ev_ne, ev_eq, sz_put, HSZ.out, E120.out]) (by simp [ev_ne, ev_eq, sz_put, HSZ.out]) (HS39.out W)) ?_
      refine GOUT.out _ _ _ _ ?_
      dsimp only
      rw [pc 136 124, pc 134 124, pc 131 124, pc 136 125, pc 134 125, pc 131 125]
      exact s44.out g12 g15 g17 _ T
     ·
      refine al10 (by simp [ev_ne, ev_eq, sz_put, HSZ.out, E128.out]) T.out fun g10 W1 T1 => hK _ _ (GOUT.out _ _ _ _ ?_)
      rw [pc 136 129, pc 134 129, pc 131 129]
      exact s52.out g10 g12 g15 g17 _ T1)
    have s61 := Lh (show ∀ g12 g15 W, Hid (TeS W15 bn True [] [] [] [] 0 0 false false false false none (.int .i64 0) none none none (some g12) (some g15) none W) → G 13 #[tt, tt, tt, tt, tt, ff, ff, tt, ff, tt, ff, ff, tt, ff, ff, tt, ff, ff, ff, ff, ff, ff] ((a0.put (some 131) (.slice (some ⟨g12, 0, none⟩) 1 1)).put (some 134) (.slice (some ⟨g15, 0, none⟩) 2 2)) W from by
     intro g12 g15 W T
     apply GIN.out
     refine wpAny_ready (rs := [5, 10, 17]) (by kernel_rfl) (by simp) ?_
     refine aC (o := kLawK_9) (fun K hK => ?_) (aC (o := kLawK_7) (fun K hK => ?_) (aC (o := kLawK_0) (fun K hK => ?_) aN))
     ·
      refine al5 (by simp [ev_ne, ev_eq, sz_put, HSZ.out, E121.out]) (by simp [ev_ne, ev_eq, sz_put, HSZ.out, E123.out]) HAR.out (hK _ _ ?_)
      clear hK K
      refine tk 6 kLawK_10 (.slice Ab kk cb) (fun W => exec_k6 _ W (by simp [ev_ne, ev_eq, sz_put, HSZ.out, E120.out]) (by simp [ev_ne, ev_eq, sz_put, HSZ.out]) (HS39.out W)) ?_
      refine GOUT.out _ _ _ _ ?_
      dsimp only
      rw [pc 134 124, pc 131 124, pc 134 125, pc 131 125]
      exact s45.out g12 g15 _ T
     ·
      refine al10 (by simp [ev_ne, ev_eq, sz_put, HSZ.out, E128.out]) T.out fun g10 W1 T1 => hK _ _ (GOUT.out _ _ _ _ ?_)
      rw [pc 134 129, pc 131 129]
      exact s53.out g10 g12 g15 _ T1
     ·
      refine al17 T.out fun g17 W1 T1 => hK _ _ (GOUT.out _ _ _ _ ?_)
      exact s60.out g12 g15 g17 _ T1)
    have s62 := Lh (show ∀ g12 g17 W, Hid (TeS W15 bn True [] [] [] [] 0 0 false false false false none (.int .i64 0) none none none (some g12) none (some g17) W) → G 13 #[tt, tt, tt, tt, tt, ff, ff, tt, ff, tt, ff, ff, tt, ff, ff, ff, ff, tt, ff, ff, ff, ff] ((a0.put (some 131) (.slice (some ⟨g12, 0, none⟩) 1 1)).put (some 136) (.slice (some ⟨g17, 0, none⟩) 1 1)) W from by
     intro g12 g17 W T
     apply GIN.out
     refine wpAny_ready (rs := [5, 10, 15]) (by kernel_rfl) (by simp) ?_
     refine aC (o := kLawK_9) (fun K hK => ?_) (aC (o := kLawK_7) (fun K hK => ?_) (aC (o := kLawK_2) (fun K hK => ?_) aN))
     ·
      refine al5 (by simp [ev_ne, ev_eq, sz_put, HSZ.out, E121.out]) (by simp [ev_ne, ev_eq, sz_put, HSZ.out, E123.out]) HAR.out (hK _ _ ?_)
      clear hK K
      refine tk 6 kLawK_10 (.slice Ab kk cb) (fun W => exec_k6 _ W (by simp [ev_ne, ev_eq, sz_put, HSZ.out, E120.out]) (by simp [ev_ne, ev_eq, sz_put, HSZ.out]) (HS39.out W)) ?_
      refine GOUT.out _ _ _ _ ?_
      dsimp only
      rw [pc 136 124, pc 131 124, pc 136 125, pc 131 125]
      exact s46.out g12 g17 _ T
     ·
      refine al10 (by simp [ev_ne, ev_eq, sz_put, HSZ.out, E128.out]) T.out fun g10 W1 T1 => hK _ _ (GOUT.out _ _ _ _ ?_)
      rw [pc 136 129, pc 131 129]
      exact s54.out g10 g12 g17 _ T1
     ·
      refine al15 T.out fun g15 W1 T1 => hK _ _ (GOUT.out _ _ _ _ ?_)
      rw [pc 136 134]
      exact s60.out g12 g15 g17 _ T1)
    have s63 := Lh (show ∀ g12 W, Hid (TeS W15 bn True [] [] [] [] 0 0 false false false false none (.int .i64 0) none none none (some g12) none none W) → G 14 #[tt, tt, tt, tt, tt, ff, ff, tt, ff, tt, ff, ff, tt, ff, ff, ff, ff, ff, ff, ff, ff, ff] (a0.put (some 131) (.slice (some ⟨g12, 0, none⟩) 1 1)) W from by
     intro g12 W T
     apply GIN.out
     refine wpAny_ready (rs := [5, 10, 15, 17]) (by kernel_rfl) (by simp) ?_
     refine aC (o := kLawK_9) (fun K hK => ?_) (aC (o := kLawK_7) (fun K hK => ?_) (aC (o := kLawK_2) (fun K hK => ?_) (aC (o := kLawK_0) (fun K hK => ?_) aN)))
     ·
      refine al5 (by simp [ev_ne, ev_eq, sz_put, HSZ.out, E121.out]) (by simp [ev_ne, ev_eq, sz_put, HSZ.out, E123.out]) HAR.out (hK _ _ ?_)
      clear hK K
      refine tk 6 kLawK_10 (.slice Ab kk cb) (fun W => exec_k6 _ W (by simp [ev_ne, ev_eq, sz_put, HSZ.out, E120.out]) (by simp [ev_ne, ev_eq, sz_put, HSZ.out]) (HS39.out W)) ?_
      refine GOUT.out _ _ _ _ ?_
      dsimp only
      rw [pc 131 124, pc 131 125]
      exact s47.out g12 _ T
     ·
      refine al10 (by simp [ev_ne, ev_eq, sz_put, HSZ.out, E128.out]) T.out fun g10 W1 T1 => hK _ _ (GOUT.out _ _ _ _ ?_)
      rw [pc 131 129]
      exact s55.out g10 g12 _ T1
     ·
      refine al15 T.out fun g15 W1 T1 => hK _ _ (GOUT.out _ _ _ _ ?_)
      exact s61.out g12 g15 _ T1
     ·
      refine al17 T.out fun g17 W1 T1 => hK _ _ (GOUT.out _ _ _ _ ?_)
      exact s62.out g12 g17 _ T1)
    have s64 := Lh (show ∀ g15 g17 W, Hid (TeS W15 bn True [] [] [] [] 0 0 false false false false none (.int .i64 0) none none none none (some g15) (some g17) W) → G 13 #[tt, tt, tt, tt, tt, ff, ff, tt, ff, tt, ff, ff, ff, ff, ff, tt, ff, tt, ff, ff, ff, ff] ((a0.put (some 134) (.slice (some ⟨g15, 0, none⟩) 2 2)).put (some 136) (.slice (some ⟨g17, 0, none⟩) 1 1)) W from by
     intro g15 g17 W T
     apply GIN.out
     refine wpAny_ready (rs := [5, 10, 12]) (by kernel_rfl) (by simp) ?_
     refine aC (o := kLawK_9) (fun K hK => ?_) (aC (o := kLawK_7) (fun K hK => ?_) (aC (o := kLawK_5) (fun K hK => ?_) aN))
     ·
      refine al5 (by simp [ev_ne, ev_eq, sz_put, HSZ.out, E121.out]) (by simp [ev_ne, ev_eq, sz_put, HSZ.out, E123.out]) HAR.out (hK _ _ ?_)
      clear hK K
      refine tk 6 kLawK_10 (.slice Ab kk cb) (fun W => exec_k6 _ W (by simp [ev_ne, ev_eq, sz_put, HSZ.out, E120.out]) (by simp [ev_ne, ev_eq, sz_put, HSZ.out]) (HS39.out W)) ?_
      refine GOUT.out _ _ _ _ ?_
      dsimp only
      rw [pc 136 124, pc 134 124, pc 136 125, pc 134 125]
      exact s48.out g15 g17 _ T
     ·
      refine al10 (by simp [ev_ne, ev_eq, sz_put, HSZ.out, E128.out]) T.out fun g10 W1 T1 => hK _ _ (GOUT.out _ _ _ _ ?_)
      rw [pc 136 129, pc 134 129]
      exact s56.out g10 g15 g17 _ T1
     ·
      refine al12 T.out fun g12 W1 T1 => hK _ _ (GOUT.out _ _ _ _ ?_)
      rw [pc 136 131, pc 134 131]
      exact s60.out g12 g15 g17 _ T1)
    have s65 := Lh (show ∀ g15 W, Hid (TeS W15 bn True [] [] [] [] 0 0 false false false false none (.int .i64 0) none none none none (some g15) none W) → G 14 #[tt, tt, tt, tt, tt, ff, ff, tt, ff, tt, ff, ff, ff, ff, ff, tt, ff, ff, ff, ff, ff, ff] (a0.put (some 134) (.slice (some ⟨g15, 0, none⟩) 2 2)) W from by
     intro g15 W T
     apply GIN.out
     refine wpAny_ready (rs := [5, 10, 12, 17]) (by kernel_rfl) (by simp) ?_
     refine aC (o := kLawK_9) (fun K hK => ?_) (aC (o := kLawK_7) (fun K hK => ?_) (aC (o := kLawK_5) (fun K hK => ?_) (aC (o := kLawK_0) (fun K hK => ?_) aN)))
     ·
      refine al5 (by simp [ev_ne, ev_eq, sz_put, HSZ.out, E121.out]) (by simp [ev_ne, ev_eq, sz_put, HSZ.out, E123.out]) HAR.out (hK _ _ ?_)
      clear hK K
      refine tk 6 kLawK_10 (.slice Ab kk cb) (fun W => exec_k6 _ W (by simp [ev_ne, ev_eq, sz_put, HSZ.out, E120.out]) (by simp [ev_ne, ev_eq, sz_put, HSZ.out]) (HS39.out W)) ?_
      refine GOUT.out _ _ _ _ ?_
      dsimp only
      rw [pc 134 124, pc 134 125]
      exact s49.out g15 _ T
     ·
      refine al10 (by simp [ev_ne, ev_eq, sz_put, HSZ.out, E128.out]) T.out fun g10 W1 T1 => hK _ _ (GOUT.out _ _ _ _ ?_)
      rw [pc 134 129]
      exact s57.out g10 g15 _ T1
     ·
      refine al12 T.out fun g12 W1 T1 => hK _ _ (GOUT.out _ _ _ _ ?_)
      rw [pc 134 131]
      exact s61.out g12 g15 _ T1
     ·
      refine al17 T.out fun g17 W1 T1 => hK _ _ (GOUT.out _ _ _ _ ?_)
      exact s64.out g15 g17 _ T1)
    have s66 := Lh (show ∀ g17 W, Hid (TeS W15 bn True [] [] [] [] 0 0 false false false false none (.int .i64 0) none none none none none (some g17) W) → G 14 #[tt, tt, tt, tt, tt, ff, ff, tt, ff, tt, ff, ff, ff, ff, ff, ff, ff, tt, ff, ff, ff, ff] (a0.put (some 136) (.slice (some ⟨g17, 0, none⟩) 1 1)) W from by
     intro g17 W T
     apply GIN.out
     refine wpAny_ready (rs := [5, 10, 12, 15]) (by kernel_rfl) (by simp) ?_
     refine aC (o := kLawK_9) (fun K hK => ?_) (aC (o := kLawK_7) (fun K hK => ?_) (aC (o := kLawK_5) (fun K hK => ?_) (aC (o := kLawK_2) (fun K hK => ?_) aN)))
     ·
      refine al5 (by simp [ev_ne, ev_eq, sz_put, HSZ.out, E121.out]) (by simp [ev_ne, ev_eq, sz_put, HSZ.out, E123.out]) HAR.out (hK _ _ ?_)
      clear hK K
      refine tk 6 kLawK_10 (.slice Ab kk cb) (fun W => exec_k6 _ W (by simp [ev_ne, ev_eq, sz_put, HSZ.out, E120.out]) (by simp [ev_ne, ev_eq, sz_put, HSZ.out]) (HS39.out W)) ?_
      refine GOUT.out _ _ _ _ ?_
      dsimp only
      rw [pc 136 124, pc 136 125]
      exact s50.out g17 _ T
     ·
      refine al10 (by simp [ev_ne, ev_eq, sz_put, HSZ.out, E128.out]) T.out fun g10 W1 T1 => hK _ _ (GOUT.out _ _ _ _ ?_)
      rw [pc 136 129]
      exact s58.out g10 g17 _ T1
     ·
      refine al12 T.out fun g12 W1 T1 => hK _ _ (GOUT.out _ _ _ _ ?_)
      rw [pc 136 131]
      exact s62.out g12 g17 _ T1
     ·
      refine al15 T.out fun g15 W1 T1 => hK _ _ (GOUT.out _ _ _ _ ?_)
      rw [pc 136 134]
      exact s64.out g15 g17 _ T1)
    have s67 := Lh (show ∀ W, Hid (TeS W15 bn True [] [] [] [] 0 0 false false false false none (.int .i64 0) none none none none none none W) → G 15 #[tt, tt, tt, tt, tt, ff, ff, tt, ff, tt, ff, ff, ff, ff, ff, ff, ff, ff, ff, ff, ff, ff] a0 W from by
     intro W T
     apply GIN.out
     refine wpAny_ready (rs := [5, 10, 12, 15, 17]) (by kernel_rfl) (by simp) ?_
     refine aC (o := kLawK_9) (fun K hK => ?_) (aC (o := kLawK_7) (fun K hK => ?_) (aC (o := kLawK_5) (fun K hK => ?_) (aC (o := kLawK_2) (fun K hK => ?_) (aC (o := kLawK_0) (fun K hK => ?_) aN))))
     ·
      refine al5 (by simp [ev_ne, ev_eq, sz_put, HSZ.out, E121.out]) (by simp [ev_ne, ev_eq, sz_put, HSZ.out, E123.out]) HAR.out (hK _ _ ?_)
      clear hK K
      refine tk 6 kLawK_10 (.slice Ab kk cb) (fun W => exec_k6 _ W (by simp [ev_ne, ev_eq, sz_put, HSZ.out, E120.out]) (by simp [ev_ne, ev_eq, sz_put, HSZ.out]) (HS39.out W)) ?_
      refine GOUT.out _ _ _ _ ?_
      dsimp only
      exact s51.out  _ T
     ·
      refine al10 (by simp [ev_ne, ev_eq, sz_put, HSZ.out, E128.out]) T.out fun g10 W1 T1 => hK _ _ (GOUT.out _ _ _ _ ?_)
      exact s59.out g10 _ T1
     ·
      refine al12 T.out fun g12 W1 T1 => hK _ _ (GOUT.out _ _ _ _ ?_)
      exact s63.out g12 _ T1
     ·
      refine al15 T.out fun g15 W1 T1 => hK _ _ (GOUT.out _ _ _ _ ?_)
      exact s65.out g15 _ T1
     ·
      refine al17 T.out fun g17 W1 T1 => hK _ _ (GOUT.out _ _ _ _ ?_)
      exact s66.out g17 _ T1)
    exact s67.out Wd T0
  case rest =>
  obtain ⟨gt, rfl, KE⟩ := hcut
  obtain ⟨W16, hw16⟩ : ∃ W, W = wc := ⟨_, rfl⟩
  rw [← hw16] at KE ⊢
  have K16 := Lh (K15.out.trans (KE.out.2.mono K15.out.size))
  have TXS := Lh KE.out.1
  clear KE hw16 HRX HLX HLK HS39 HF60' K15 HCUT HAR HNB HEN
  go_wp2_with fail
  go_loopw [24] (fun s24 wr => ∃ j : Nat, j ≤ 5 ∧ s24 = .int .i64 j ∧ Hid (Below W16.heap.size W16 wr)) (fun s24 _ => 5 - (intOf s24).toNat)
  case atStart => exact ⟨0, by omega, rfl, Lh (Below.refl _ _)⟩
  case round =>
  obtain ⟨j, hj5, rfl, HC⟩ := hrel
  by_cases hjl : j < 5
  ·
   have hjI : (j : Int) < 5 := by omega
   obtain ⟨At, nt, ct, bt, htx⟩ := TXS.out j hjl
   obtain ⟨D, hD⟩ : ∃ D, D = decP bt := ⟨_, rfl⟩
   obtain ⟨y, u, er⟩ := D
   have hnt := htx.2.2.1
   have hnt2 := htx.2.2.2.2.1
   have hct := htx.2.2.2.1
   have hbt : bt.length ≤ 1048576 := by omega
   have hdk : Dok y 1048576 := by
    have h := dec_ok bt
    rw [← hD] at h
    exact ⟨Nat.le_trans h.l hbt, Nat.le_trans h.s hbt, fun x hx => ⟨Nat.le_trans (h.z x hx).1 hbt, Nat.le_trans (h.z x hx).2 hbt⟩, h.i⟩
   obtain ⟨ny, hny⟩ : ∃ n, n = y.leaves.length := ⟨_, rfl⟩
   obtain ⟨my, hmy⟩ : ∃ n, n = y.sides.length := ⟨_, rfl⟩
   have HNY := Lh (And.intro hny hmy)
   have HTX := Lh (fun (W : World) (hb : Below W16.heap.size W16 W) => htx.below hb)
   have HER := Lh (show j = 1 → er ≠ 0 from fun e => by have := htx.2.2.2.2.2 e; rw [← hD] at this; exact this)
   have HDY := Lh (fun (W : World) (hb : Below W16.heap.size W16 W) => show Calls Tryd.prog 38 #[.slice At nt ct] W fun e w' => ∃ Y1 Y2 y1 y2, e = .returned (.tuple #[.agg (PR y.first y.size (.slice Y1 ny y1) (.slice Y2 my y2)).toArray, .int .i64 (u : Int), .int .i64 (er : Int)]) ∧ PV w' w'.heap.size 1048576 1048576 y Y1 Y2 ny my y1 y2 ∧ Below W.heap.size W w' from by
    have := decode_any At bt ct W (HTX.out W hb).2.1 (by rw [← hnt]; exact hct) hbt
    rw [← hD, ← hnt] at this
    refine this.mono ?_
    rintro e w' ⟨v, rfl, h1, h2⟩
    obtain ⟨X1, X2, n', m', x1, x2, rfl, hx⟩ := pv_dec hdk (Nat.le_refl _) h1
    have e1 : n' = ny := by rw [hx.hn, HNY.out.1]
    have e2 : m' = my := by rw [hx.hm, HNY.out.2]
    subst e1 e2
    exact ⟨X1, X2, x1, x2, rfl, hx, h2⟩)
   have HDZ := Lh (fun (W : World) (hb : Below W16.heap.size W16 W) => show Calls Tryd.prog 42 #[.slice At nt ct] W fun e w' => ∃ Y1 Y2 y1 y2, e = .returned (.tuple #[.agg (PR y.first y.size (.slice Y1 ny y1) (.slice Y2 my y2)).toArray, .int .i64 (u : Int), .int .i64 (er : Int)]) ∧ PV w' w'.heap.size 1048576 1048576 y Y1 Y2 ny my y1 y2 ∧ Below W.heap.size W w' from by
    have := rdecode_any At bt ct W (HTX.out W hb).2.1 (by rw [← hnt]; exact hct) hbt
    rw [← hD, ← hnt] at this
    refine this.mono ?_
    rintro e w' ⟨v, rfl, h1, h2⟩
    obtain ⟨X1, X2, n', m', x1, x2, rfl, hx⟩ := pv_dec hdk (Nat.le_refl _) h1
    have e1 : n' = ny := by rw [hx.hn, HNY.out.1]
    have e2 : m' = my := by rw [hx.hm, HNY.out.2]
    subst e1 e2
    exact ⟨X1, X2, x1, x2, rfl, hx, h2⟩)
   have hc1 : wr.cell? ⟨gt, j, none⟩ = some (.slice At nt ct) := (HTX.out wr HC.out).1
   clear htx hD hnt hnt2 hct hbt hdk hny hmy
   go_wp2_with fail
   refine (HDY.out wr HC.out).mono ?_; rintro e w17 ⟨Y1, Y2, y1, y2, rfl, hpv, hb⟩
   have VY := Lh hpv
   have K17 := Lh (HC.out.trans (hb.mono HC.out.size))
   clear hpv hb hc1
   obtain ⟨W17, hW_⟩ : ∃ W, W = (w17.alloc (.cells ZP.toArray 50)).setRow w17.heap.size (PR y.first y.size (.slice Y1 ny y1) (.slice Y2 my y2)).toArray := ⟨_, rfl⟩
   have hb_ : Below w17.heap.size w17 W17 := by rw [hW_]; exact belowRow ((Below.refl _ _).alloc (Nat.le_refl _) _) (Nat.le_refl _) _
   have HBX := Lh hb_
   have YX := Lh (show Blk W17 w17.heap.size 50 (PR y.first y.size (.slice Y1 ny y1) (.slice Y2 my y2)) by rw [hW_]; exact (Blk.new w17 50 ZP).row _)
   have HE := Lh hW_
   have hZ := hZP
   clear hW_ hb_
   go_upto_region 20 with (with_reducible refine wpList_store_row rfl 50 (.tmp 25) (.tmp 152) rfl w17.heap.size (PR y.first y.size (.slice Y1 ny y1) (.slice Y2 my y2)).toArray rfl rfl 50 _ (heap_alloc_new w17 _) (size50A _ _ _ _) (ZP_PR _ _ _ _) (PR_one _ _ _ _ _ _ _ _) ?_)
   rw [← HE.out]
   try dsimp only [Act.put]
   clear HE hZ
   have VY' := Lh (VY.out.next HBX.out)
   have K17' := Lh (K17.out.trans (HBX.out.mono K17.out.size))
   obtain ⟨g25, hg⟩ : ∃ g, g = w17.heap.size := ⟨_, rfl⟩
   rw [← hg] at YX ⊢
   have Y25 := YX
   have hc1 : W17.cell? ⟨gt, j, none⟩ = some (.slice At nt ct) := (HTX.out W17 K17'.out).1
   clear hg YX HBX VY K17
   go_wp2_with fail
   refine (HDZ.out W17 K17'.out).mono ?_; rintro e w18 ⟨Z1, Z2, z1', z2', rfl, hpv, hb⟩
   have VZ := Lh hpv
   have K18 := Lh (K17'.out.trans (hb.mono K17'.out.size))
   have VY2 := Lh (VY'.out.next hb)
   have Y25' := Lh (Y25.out.below hb Y25.out.lt)
   clear hpv hb hc1 VY' Y25 K17'
   obtain ⟨W18, hW_⟩ : ∃ W, W = (w18.alloc (.cells ZP.toArray 54)).setRow w18.heap.size (PR y.first y.size (.slice Z1 ny z1') (.slice Z2 my z2')).toArray := ⟨_, rfl⟩
   have hb_ : Below w18.heap.size w18 W18 := by rw [hW_]; exact belowRow ((Below.refl _ _).alloc (Nat.le_refl _) _) (Nat.le_refl _) _
   have HBX := Lh hb_
   have YX := Lh (show Blk W18 w18.heap.size 54 (PR y.first y.size (.slice Z1 ny z1') (.slice Z2 my z2')) by rw [hW_]; exact (Blk.new w18 54 ZP).row _)
   have HE := Lh hW_
   have hZ := hZP
   clear hW_ hb_
   go_upto_region 21 with (with_reducible refine wpList_store_row rfl 54 (.tmp 28) (.tmp 161) rfl w18.heap.size (PR y.first y.size (.slice Z1 ny z1') (.slice Z2 my z2')).toArray rfl rfl 54 _ (heap_alloc_new w18 _) (size54A _ _ _ _) (ZP_PR _ _ _ _) (PR_one _ _ _ _ _ _ _ _) ?_)
   rw [← HE.out]
   try dsimp only [Act.put]
   clear HE hZ
   have VZ' := Lh (VZ.out.next HBX.out)
   have VY3 := Lh (VY2.out.next HBX.out)
   have Y25'' := Lh (Y25'.out.below HBX.out Y25'.out.lt)
   have K18' := Lh (K18.out.trans (HBX.out.mono K18.out.size))
   obtain ⟨g28, hg⟩ : ∃ g, g = w18.heap.size := ⟨_, rfl⟩
   rw [← hg] at YX ⊢
   have HS21 := Lh (And.intro Y25''.out YX.out)
   have HMY := Lh (fun (W : World) (hb : Below W18.heap.size W18 W) => show Calls Tryd.prog 27 #[.agg (PR y.first y.size (.slice Y1 ny y1) (.slice Y2 my y2)).toArray] W fun e w' => ∃ A' c', e = .returned (.agg (PR y.first y.size (.slice A' ny c') (.slice Y2 my y2)).toArray) ∧ PfAt w' w'.heap.size y A' Y2 c' y2 ∧ Below W.heap.size W w' from
    model_any y Y1 Y2 ny my y1 y2 W HNY.out.1 HNY.out.2 (VY3.out.next hb).at_)
   have HSY := Lh (fun (W : World) (A : Option Addr) (c : Nat) (hp : PfAt W W.heap.size y A Y2 c y2) (hb : Below W18.heap.size W18 W) => show Calls Tryd.prog 26 #[.agg (PR y.first y.size (.slice A ny c) (.slice Y2 my y2)).toArray, .agg (PR y.first y.size (.slice Z1 ny z1') (.slice Z2 my z2')).toArray] W fun e w' => e = .returned (.bool true) ∧ Below W.heap.size W w' from
    samePf_any y A Y2 Z1 Z2 ny my c y2 z1' z2' W HNY.out.1 HNY.out.2 hp (VZ'.out.next hb).at_)
   clear hg YX HBX VZ VY2 Y25' Y25'' K18 HDY HDZ HTX
   go_cut [186] (fun s186 wx => s186 = .bool false ∧ Hid (Below W18.heap.size W18 wx))
   case first =>
    as_aux_lemma =>
     refine wp_region_held (S := fun W => Blk W g25 50 (PR y.first y.size (.slice Y1 ny y1) (.slice Y2 my y2)) ∧ Blk W g28 54 (PR y.first y.size (.slice Z1 ny z1') (.slice Z2 my z2'))) (by kernel_rfl) ?_
     change wpAnyH _ _ _ _ _ _ _ _ (World.drew W18)
     have hs0 : Blk (World.drew W18) g25 50 (PR y.first y.size (.slice Y1 ny y1) (.slice Y2 my y2)) ∧ Blk (World.drew W18) g28 54 (PR y.first y.size (.slice Z1 ny z1') (.slice Z2 my z2')) := HS21.out
     have K0 := Lh (show Below W18.heap.size W18 (World.drew W18) from (Below.refl _ _).drew)
     generalize World.drew W18 = Wd at hs0 K0 ⊢
     refine tkH 0 ({ dst := some 164, op := Op.move (Operand.tmp 27), type := 30, pos := "law.go:176", after := #[], guard := none }) (.int .i64 (er : Int)) hs0 (fun W hW => ?y1) ?_
     case y1 => go_simp
     try simp only [zp, zn, z1, z2, z3]
     refine tkH 1 ({ dst := some 165, op := Op.move (Operand.tmp 30), type := 30, pos := "law.go:176", after := #[], guard := none }) (.int .i64 (er : Int)) hs0 (fun W hW => ?y2) ?_
     case y2 => go_simp
     try simp only [zp, zn, z1, z2, z3]
     refine tkH 2 ({ dst := some 166, op := Op.binOp BinOp.neq 30 (Operand.tmp 164) (Operand.tmp 165) 30, type := 4, pos := "law.go:176", after := #[dD 0, dD 1], guard := none }) (.bool false) hs0 (fun W hW => ?y3) ?_
     case y3 => go_simp
     try simp only [zp, zn, z1, z2, z3]
     refine tkH 3 ({ dst := some 167, op := Op.move (Operand.tmp 166), type := 4, pos := "law.go:176", after := #[dD 2], guard := none }) (.bool false) hs0 (fun W hW => ?y4) ?_
     case y4 => go_simp
     try simp only [zp, zn, z1, z2, z3]
     refine tkH 4 ({ dst := some 168, op := Op.move (Operand.tmp 26), type := 3, pos := "law.go:176", after := #[{ on := 3, ground := Ground.guard }], guard := some (3, false) }) (.int .i64 (u : Int)) hs0 (fun W hW => ?y5) ?_
     case y5 => go_simp
     try simp only [zp, zn, z1, z2, z3]
     refine tkH 5 ({ dst := some 169, op := Op.move (Operand.tmp 29), type := 3, pos := "law.go:176", after := #[{ on := 3, ground := Ground.guard }], guard := some (3, false) }) (.int .i64 (u : Int)) hs0 (fun W hW => ?y6) ?_
     case y6 => go_simp
     try simp only [zp, zn, z1, z2, z3]
     refine tkH 6 ({ dst := some 170, op := Op.binOp BinOp.neq 3 (Operand.tmp 168) (Operand.tmp 169) 3, type := 4, pos := "law.go:176", after := #[dD 4, dD 5, { on := 3, ground := Ground.guard }], guard := some (3, false) }) (.bool false) hs0 (fun W hW => ?y7) ?_
     case y7 => go_simp
     try simp only [zp, zn, z1, z2, z3]
     refine tkH 7 ({ dst := some 171, op := Op.pick (Operand.tmp 167) (Operand.const (Value.bool true)) (Operand.tmp 170), type := 4, pos := "law.go:176", after := #[dD 3, dD 6], guard := none }) (.bool false) hs0 (fun W hW => ?y8) ?_
     case y8 => go_simp
     try simp only [zp, zn, z1, z2, z3]
     refine tkH 8 ({ dst := some 172, op := Op.move (Operand.tmp 171), type := 4, pos := "law.go:176", after := #[dD 7, dC 3], guard := none }) (.bool false) hs0 (fun W hW => ?y9) ?_
     case y9 => go_simp
     try simp only [zp, zn, z1, z2, z3]
     refine tkH 9 ({ dst := some 173, op := Op.load 50 (Operand.tmp 25), type := 50, pos := "law.go:176", after := #[{ on := 8, ground := Ground.guard }], guard := some (8, false) }) (.agg (PR y.first y.size (.slice Y1 ny y1) (.slice Y2 my y2)).toArray) hs0 (fun W hW => exec_load_row _ _ 50 (.tmp 25) rfl ⟨g25, 0, none⟩ rfl (PR y.first y.size (.slice Y1 ny y1) (.slice Y2 my y2)) W (run_loadVar_at W _ 50 (PR y.first y.size (.slice Y1 ny y1) (.slice Y2 my y2)) _ (Blk.at hW.1) Tryd.underlying50 rfl (size50L _ _ _ _))) ?_
     try simp only [zp, zn, z1, z2, z3]
     refine tkH 11 ({ dst := some 175, op := Op.load 54 (Operand.tmp 28), type := 54, pos := "law.go:176", after := #[{ on := 8, ground := Ground.guard }], guard := some (8, false) }) (.agg (PR y.first y.size (.slice Z1 ny z1') (.slice Z2 my z2')).toArray) hs0 (fun W hW => exec_load_row _ _ 54 (.tmp 28) rfl ⟨g28, 0, none⟩ rfl (PR y.first y.size (.slice Z1 ny z1') (.slice Z2 my z2')) W (run_loadVar_at W _ 54 (PR y.first y.size (.slice Z1 ny z1') (.slice Z2 my z2')) _ (Blk.at hW.2) Tryd.underlying54 rfl (size54L _ _ _ _))) ?_
     try simp only [zp, zn, z1, z2, z3]
     refine wpAnyH_ready (rs := [10]) (by kernel_rfl) (by simp) ?_
     refine AllReadyH.cons (o := { dst := some 174, op := Op.call { callee := Callee.value (Operand.func 27), args := #[Operand.tmp 173], argTypes := #[50] }, type := 54, pos := "law.go:176", after := #[dD 9, dC 8, { on := 8, ground := Ground.guard }], guard := some (8, false) }) rfl (fun K hK => ?_) AllReadyH.nil
     rw [if_pos (by rfl)]
     have HCC := HMY.out Wd K0.out
     go_simp
     refine HCC.mono ?_; rintro e w60 ⟨A60, c60, rfl, hpa, hb⟩
     clear HCC
     have hs60 := blk2_below hs0 hb
     have O60 := Lh hpa
     have K60 := Lh (K0.out.trans (hb.mono K0.out.size))
     clear hpa hb
     go_wp2_with fail
     refine hK.out _ _ hs60 (fun _ => ?_)
     clear hK K
     try simp only [zp, zn, z1, z2, z3]
     refine wpAnyH_ready (rs := [12]) (by kernel_rfl) (by simp) ?_
     refine AllReadyH.cons (o := { dst := some 176, op := Op.call { callee := Callee.value (Operand.func 26), args := #[Operand.tmp 174, Operand.tmp 175], argTypes := #[54, 54] }, type := 4, pos := "law.go:176", after := #[dD 10, dD 11, dC 10, { on := 8, ground := Ground.guard }], guard := some (8, false) }) rfl (fun K hK => ?_) AllReadyH.nil
     rw [if_pos (by rfl)]
     have HCC := HSY.out w60 A60 c60 O60.out K60.out
     go_simp
     refine HCC.mono ?_; rintro e w61 ⟨rfl, hb⟩
     clear HCC
     have hs61 := blk2_below hs60 hb
     have K61 := Lh (K60.out.trans (hb.mono K60.out.size))
     clear hb
     go_wp2_with fail
     refine hK.out _ _ hs61 (fun _ => ?_)
     clear hK K
     try simp only [zp, zn, z1, z2, z3]
     by_cases hj1 : j = 1
     ·
      have her : ((er : Int) == 0) = false := by rw [beq_eq_false_iff_ne]; have := HER.out hj1; omega
      have HEZ := Lh her
      have HJ := Lh (show ((j : Int) == 1) = true by rw [hj1]; rfl)
      clear her hj1
      refine tkH 13 kLawK_11 (.bool false) hs61 (fun W hW => ?y12) ?_
      case y12 => go_simp
      try simp only [zp, zn, z1, z2, z3]
      refine tkH 14 kLawK_12 (.bool false) hs61 (fun W hW => ?y13) ?_
      case y13 => go_simp
      try simp only [zp, zn, z1, z2, z3]
      refine tkH 15 kLawK_13 (.bool false) hs61 (fun W hW => ?y14) ?_
      case y14 => go_simp
      try simp only [zp, zn, z1, z2, z3]
      refine tkH 16 kLawK_14 (.int .i64 (j : Int)) hs61 (fun W hW => ?y15) ?_
      case y15 => go_simp
      try simp only [zp, zn, z1, z2, z3]
      refine tkH 17 kLawK_15 (.bool true) hs61 (fun W hW => by have hj1 := HJ.out; go_simp) ?_
      try simp only [zp, zn, z1, z2, z3]
      refine tkH 18 kLawK_16 (.bool true) hs61 (fun W hW => ?y17) ?_
      case y17 => go_simp
      try simp only [zp, zn, z1, z2, z3]
      refine tkH 19 kLawK_17 (.int .i64 (er : Int)) hs61 (fun W hW => ?y18) ?_
      case y18 => go_simp
      try simp only [zp, zn, z1, z2, z3]
      refine tkH 20 kLawK_18 (.bool false) hs61 (fun W hW => by have her := HEZ.out; go_simp) ?_
      try simp only [zp, zn, z1, z2, z3]
      refine tkH 21 kLawK_19 (.bool false) hs61 (fun W hW => ?y20) ?_
      case y20 => go_simp
      try simp only [zp, zn, z1, z2, z3]
      refine tkH 22 kLawK_20 (.bool false) hs61 (fun W hW => ?y21) ?_
      case y21 => go_simp
      try simp only [zp, zn, z1, z2, z3]
      refine wpAnyH_done (by kernel_rfl) ?_ _
      try simp only [zp, zn, z1, z2, z3]
      go_wp2_with fail
      go_meet
      exact ⟨rfl, K61⟩
     ·
      have HJ := Lh (show ((j : Int) == 1) = false by rw [beq_eq_false_iff_ne]; omega)
      clear hj1
      refine tkH 13 kLawK_11 (.bool false) hs61 (fun W hW => ?y22) ?_
      case y22 => go_simp
      try simp only [zp, zn, z1, z2, z3]
      refine tkH 14 kLawK_12 (.bool false) hs61 (fun W hW => ?y23) ?_
      case y23 => go_simp
      try simp only [zp, zn, z1, z2, z3]
      refine tkH 15 kLawK_13 (.bool false) hs61 (fun W hW => ?y24) ?_
      case y24 => go_simp
      try simp only [zp, zn, z1, z2, z3]
      refine tkH 16 kLawK_14 (.int .i64 (j : Int)) hs61 (fun W hW => ?y25) ?_
      case y25 => go_simp
      try simp only [zp, zn, z1, z2, z3]
      refine tkH 17 kLawK_15 (.bool false) hs61 (fun W hW => by have hj1 := HJ.out; go_simp) ?_
      try simp only [zp, zn, z1, z2, z3]
      refine tkH 18 kLawK_16 (.bool false) hs61 (fun W hW => ?y27) ?_
      case y27 => go_simp
      try simp only [zp, zn, z1, z2, z3]
      refine wpAnyH_take (i := 19) (oi := kLawK_17) (v := undef) rfl (by kernel_rfl) (by kernel_rfl) (by kernel_rfl) (fun _ _ _ h => h) (Or.inr ⟨by rfl, rfl⟩) hs61 ?_
      try simp only [zp, zn, z1, z2, z3]
      refine wpAnyH_take (i := 20) (oi := kLawK_18) (v := undef) rfl (by kernel_rfl) (by kernel_rfl) (by kernel_rfl) (fun _ _ _ h => h) (Or.inr ⟨by rfl, rfl⟩) hs61 ?_
      try simp only [zp, zn, z1, z2, z3]
      refine tkH 21 kLawK_19 (.bool false) hs61 (fun W hW => ?y30) ?_
      case y30 => go_simp
      try simp only [zp, zn, z1, z2, z3]
      refine tkH 22 kLawK_20 (.bool false) hs61 (fun W hW => ?y31) ?_
      case y31 => go_simp
      try simp only [zp, zn, z1, z2, z3]
      refine wpAnyH_done (by kernel_rfl) ?_ _
      try simp only [zp, zn, z1, z2, z3]
      go_wp2_with fail
      go_meet
      exact ⟨rfl, K61⟩
   case rest =>
   obtain ⟨rfl, KE⟩ := hcut
   have KR := Lh (K18'.out.trans (KE.out.mono K18'.out.size))
   clear KE
   go_wp2_with fail
   go_roundw
   case rel => exact ⟨j + 1, by omega, by go_num, KR⟩
   case measure => simp only [intOf]; omega
  ·
   obtain rfl : j = 5 := by omega
   have KR := Lh (K16.out.trans (HC.out.mono K16.out.size))
   go_wp2_with fail
   go_roundw
   case rel => exact ⟨i + 1, by omega, by go_num, KR⟩
   case measure => simp only [intOf]; omega
 ·
  obtain rfl : i = 4 := by omega
  have Bw := Lh (Bs9.out.trans (HB.out.mono Bs9.out.size))
  go_wp2_with (go_at_call 19; refine (lives_any _ (HT.out.below Bw.out HT.out.1)).mono ?_; rintro e w30 ⟨rfl, hb⟩; have K30 := Lh (Bw.out.trans (hb.mono Bw.out.size)); clear hb)
  go_ret
  exact ⟨rfl, K30.out⟩
end Go.Proofs.YtofccgkgjcnfbaaDoor
