/-
  What Verify says of a signature just made; sanity returns true.
  Conditions: the table of the round constants is as the text lays it.
-/
import Derived.Test.YtgonidjajmjniaaDoorNumE
namespace Go.Proofs.YtgonidjajmjniaaDoor
open Go.RowKit Wr Sh
set_option linter.unusedVariables false
set_option maxRecDepth 100000

theorem dig_chains (s : List UInt8) (ix : Int) (D : List UInt8) (T : List UInt8) : ∀ n c, c < n → dig16 (chainsOf s ix D n ++ T) c = adv ix (c : Int) 0 (bot s ix (c : Int)) (sdig D c) := by
  intro n
  induction n generalizing T with
  | zero => intro c hc; omega
  | succ n ih =>
    intro c hc
    rw [chains_succ, List.append_assoc]
    rcases Nat.lt_or_ge c n with hlt | hge
    · exact ih _ c hlt
    · obtain rfl : c = n := by omega
      unfold dig16
      rw [List.drop_append_of_le_length (by rw [chains_len]; omega), List.drop_eq_nil_of_le (by rw [chains_len]; omega), List.nil_append, List.take_append_of_le_length (by rw [adv_len _ _ _ _ (bot_len _ _ _)]; omega), List.take_of_length_le (by rw [adv_len _ _ _ _ (bot_len _ _ _)]; omega)]
/-- The values of a signature, advanced to the top. -/
theorem topsV_sig (s : List UInt8) (ix : Int) (D T : List UInt8) : ∀ n, n ≤ 68 → topsV ix D (chainsOf s ix D 68 ++ T) n = topsOf s ix n := by
  intro n
  induction n with
  | zero => intro _; rfl
  | succ n ih =>
    intro hn
    rw [topsV_succ, tops_succ, ih (by omega), dig_chains s ix D T 68 n (by omega)]
    have h3 := sdig_le D n
    have := adv_add ix (n : Int) 0 (bot s ix (n : Int)) (sdig D n) (3 - sdig D n)
    rw [Int.zero_add, show sdig D n + (3 - sdig D n) = 3 by omega] at this
    rw [this]
theorem climb_sig (s : List UInt8) (ix h : Nat) : ∀ j, j ≤ h → climbOf ix (node s 0 ix) (bes s ix h) j = node s j (ix / 2 ^ j) := by
  intro j
  induction j with
  | zero => intro _; simp [climbOf]
  | succ j ih =>
    intro hj
    rw [climbOf, ih (by omega), bes_dig s ix h j (by omega)]
    have e : ix / 2 ^ (j + 1) = ix / 2 ^ j / 2 := by rw [Nat.div_div_eq_div_mul, Nat.pow_succ]
    rw [e]
    generalize ix / 2 ^ j = n
    show _ = nodeOf (node s j (2 * (n / 2))) (node s j (2 * (n / 2) + 1))
    by_cases hp : n % 2 = 0
    · rw [if_pos hp, show 2 * (n / 2) = n by omega]
      unfold sib; rw [if_pos hp]
    · rw [if_neg hp, show 2 * (n / 2) = n - 1 by omega, show n - 1 + 1 = n by omega]
      unfold sib; rw [if_neg hp]
/-- A signature leads to the root. -/
theorem root_sig (s : List UInt8) (h ix : Nat) (m : ByteArray) (hix : ix < 2 ^ h) : rootV (node s h 0) h m ix (chainsOf s (ix : Int) (digOf (node s h 0) (ix : Int) m) 68 ++ bes s ix h) = node s h 0 := by
  unfold rootV
  rw [topsV_sig _ _ _ _ 68 (Nat.le_refl _), List.drop_append_of_le_length (by rw [chains_len]; omega), List.drop_eq_nil_of_le (by rw [chains_len]; omega), List.nil_append]
  have := climb_sig s ix h h (Nat.le_refl _)
  rw [Nat.div_eq_of_lt hix] at this
  exact this
theorem sig_len (s : List UInt8) (h ix : Nat) (m : ByteArray) : (sigOf s h ix m).length = (enc (ix : Int)).length + (68 + h) * 16 := by
  unfold sigOf; rw [List.length_append, List.length_append, chains_len, bes_len]; omega
theorem sig_dec (s : List UInt8) (h ix : Nat) (m : ByteArray) (hix : ix < 64) : decInt (sigOf s h ix m) = ((ix : Int), (enc (ix : Int)).length, 0) := by
  unfold sigOf; rw [List.append_assoc]; exact decInt_enc _ _ (by omega) (by omega)
theorem sig_drop (s : List UInt8) (h ix : Nat) (m : ByteArray) : (sigOf s h ix m).drop (enc (ix : Int)).length = chainsOf s (ix : Int) (digOf (node s h 0) (ix : Int) m) 68 ++ bes s ix h := by
  unfold sigOf; rw [List.append_assoc, List.drop_append_of_le_length (Nat.le_refl _), List.drop_length, List.nil_append]

/-- Verify of a signature just made, with whatever message of a size. -/
theorem verify_sig (s : List UInt8) (p : List UInt8) (h ix : Nat) (m m2 : ByteArray) (w : World) (hp : p.length = 16) (hh : h ≤ 6) (hix : ix < 2 ^ h) (hm : m2.size ≤ 1048576) (ht : Tab 1 w) (sg : ByteArray) (hsg : sg.data.toList = sigOf s h ix m) (Rt : List UInt8) (hRt : Hid (Rt = rootV p h m2 ix (chainsOf s (ix : Int) (digOf (node s h 0) (ix : Int) m) 68 ++ bes s ix h))) :
    Calls Tryd.prog 18 #[.agg (B8 p).toArray, .int .i64 (h : Int), .string m2, .string sg] w fun e w' => e = .returned (verRes (Rt == p) ix) ∧ Below w.heap.size w w' := by
  have hp6 : 2 ^ h ≤ 64 := Nat.le_trans (Nat.pow_le_pow_right (by decide) hh) (by decide)
  have hl := sig_len s h ix m
  have hz : sg.size = (enc (ix : Int)).length + (68 + h) * 16 := by rw [← size_l, hsg, hl]
  have he := (enc_le (ix : Int)).2
  exact verify_root p h ix m2 sg w hp hh hix hm (by omega) (enc (ix : Int)).length (Lib.hid (by rw [hsg]; exact sig_dec s h ix m (by omega))) (by omega) (by omega) ht Rt (Lib.hid (by rw [hsg, sig_drop]; exact hRt.out))

def ZL : List UInt8 := List.replicate 16 0

set_option maxHeartbeats 4000000 in
theorem sanity_any (w : World) (ht : Tab 1 w) : Calls Tryd.prog 9 #[] w fun e w' => e = .returned (.bool true) ∧ Below w.heap.size w w' := by
  have HT := Lib.hid ht
  obtain ⟨sd, hsd⟩ : ∃ sd : ByteArray, sd = ⟨(List.replicate 32 5).toArray⟩ := ⟨_, rfl⟩
  have HS := Lib.hid (show sd.data.toList = S5 by rw [hsd]; rfl)
  have H32 := Lib.hid (show sd.size = 32 by rw [← size_l, HS.out]; rfl)
  obtain ⟨p, hp⟩ : ∃ p, p = Pk := ⟨_, rfl⟩
  have HP := Lib.hid (show p = node sd.data.toList 1 0 by rw [hp, HS.out, root5])
  have HPl := Lib.hid (show p.length = 16 by rw [hp]; rfl)
  obtain ⟨sgL, hsgL⟩ : ∃ l, l = sigOf S5 1 1 (bs [109]) := ⟨_, rfl⟩
  have HSG := Lib.hid (show sgL = sigOf sd.data.toList 1 1 (bs [109]) by rw [hsgL, HS.out])
  obtain ⟨Rm, hRm⟩ : ∃ R, R = rootV p 1 (bs [109]) 1 (chainsOf S5 ((1 : Nat) : Int) (digOf (node S5 1 0) ((1 : Nat) : Int) (bs [109])) 68 ++ bes S5 1 1) := ⟨_, rfl⟩
  obtain ⟨Rn, hRn⟩ : ∃ R, R = rootV p 1 (bs [110]) 1 (chainsOf S5 ((1 : Nat) : Int) (digOf (node S5 1 0) ((1 : Nat) : Int) (bs [109])) 68 ++ bes S5 1 1) := ⟨_, rfl⟩
  have hm : (Rm == p) = true := by
    rw [beq_iff_eq, hRm, hp, ← root5]; exact root_sig S5 1 1 (bs [109]) (by decide)
  have hn : (Rn == p) = false := by
    rw [beq_eq_false_iff_ne, hRn, hp, sig_rest]; exact wrong5
  obtain ⟨D1, hD1⟩ : ∃ D, D = digOf p 1 (bs [109]) := ⟨_, rfl⟩
  obtain ⟨D0, hD0⟩ : ∃ D, D = digOf p 0 (bs [109]) := ⟨_, rfl⟩
  have hne : (D1 == D0) = false := by rw [beq_eq_false_iff_ne, hD1, hD0, hp]; exact dig_ne
  have HRm := Lib.hid hRm
  have HRn := Lib.hid hRn
  have HD1 := Lib.hid hD1
  have HD0 := Lib.hid hD0
  have L1 := Lib.hid (show D1.length = 16 by rw [hD1]; exact dof_len _ _)
  have L0 := Lib.hid (show D0.length = 16 by rw [hD0]; exact dof_len _ _)
  have hz := hZ16
  clear ht hp hsgL hRm hRn hD1 hD0
  go_enter Tryd.func9, Tryd.ntmps9
  go_wp2_with fail
  refine (seed_any 5 w).mono ?_; rintro e w1 ⟨rfl, hb1⟩
  rw [← hsd]
  have B1 := Lib.hid hb1
  clear hb1 hsd
  go_wp2_with fail
  refine (public_ok sd 1 _ H32.out (by omega) (HT.out.below B1.out HT.out.1) p HP.out).mono ?_; rintro e w2 ⟨rfl, hb2⟩
  have B2 := Lib.hid (B1.out.trans (hb2.mono B1.out.size))
  clear hb2
  obtain ⟨w3, hw3⟩ : ∃ W, W = (w2.alloc (.cells Z16.toArray 23)).setRow w2.heap.size (B8 p).toArray := ⟨_, rfl⟩
  have B3 := Lib.hid (show Below w.heap.size w w3 by rw [hw3]; exact belowRow (B2.out.alloc B2.out.size _) B2.out.size _)
  have KP := Lib.hid (show Blk w3 w2.heap.size 23 (B8 p) by rw [hw3]; exact (Blk.new w2 23 Z16).row _)
  have HW3 := Lib.hid hw3
  clear hw3
  go_wp2_with (with_reducible refine wpList_store_row rfl 23 (.tmp 2) (.tmp 19) rfl w2.heap.size (B8 p).toArray rfl rfl 23 _ (heap_alloc_new w2 _) (size23' _ HPl.out) (Z16_size _ HPl.out) (one8 _) ?_; rw [← HW3.out])
  refine (sign_ok sd 1 1 (bs [109]) w3 H32.out (by omega) (by decide) (by decide) (HT.out.below B3.out HT.out.1) sgL HSG).mono ?_; rintro e w4 ⟨rfl, hb4⟩
  have B4 := Lib.hid (B3.out.trans (hb4.mono B3.out.size))
  have KP4 := Lib.hid (KP.out.below hb4 KP.out.lt)
  have A4 := Lib.hid KP4.out.at
  clear hb4
  go_wp2_with (with_reducible refine wpList_load_at rfl 23 (.tmp 2) rfl ⟨w2.heap.size, 0, none⟩ rfl (B8 p) (.array 16 5) A4.out Tryd.underlying23 rfl (size23 _ HPl.out) ?_)
  refine ((verify_sig sd.data.toList p 1 1 (bs [109]) (bs [109]) w4 HPl.out (by omega) (by decide) (by decide) (HT.out.below B4.out HT.out.1) (bs sgL) ((bs_list sgL).trans HSG.out) Rm (Lib.hid (by rw [HS.out]; exact HRm.out))).mono ?_ : Calls Tryd.prog 18 #[.agg (B8 p).toArray, .int .i64 1, .string (bs [109]), .string (bs sgL)] w4 _); rintro e w5 ⟨rfl, hb5⟩
  rw [hm]
  have B5 := Lib.hid (B4.out.trans (hb5.mono B4.out.size))
  have KP5 := Lib.hid (KP4.out.below hb5 KP4.out.lt)
  have A5 := Lib.hid KP5.out.at
  clear hb5
  rw [show verRes true 1 = .tuple #[.int .i64 1, .int .i64 0] from rfl]
  go_wp2_with (with_reducible refine wpList_load_at rfl 23 (.tmp 2) rfl ⟨w2.heap.size, 0, none⟩ rfl (B8 p) (.array 16 5) A5.out Tryd.underlying23 rfl (size23 _ HPl.out) ?_)
  refine ((verify_sig sd.data.toList p 1 1 (bs [109]) (bs [110]) w5 HPl.out (by omega) (by decide) (by decide) (HT.out.below B5.out HT.out.1) (bs sgL) ((bs_list sgL).trans HSG.out) Rn (Lib.hid (by rw [HS.out]; exact HRn.out))).mono ?_ : Calls Tryd.prog 18 #[.agg (B8 p).toArray, .int .i64 1, .string (bs [110]), .string (bs sgL)] w5 _); rintro e w6 ⟨rfl, hb6⟩
  rw [hn]
  have B6 := Lib.hid (B5.out.trans (hb6.mono B5.out.size))
  have KP6 := Lib.hid (KP5.out.below hb6 KP5.out.lt)
  clear hb6
  rw [show verRes false 1 = .tuple #[.int .i64 0, .int .i64 19] from rfl]
  go_wp2_with fail
  refine (sign_spent sd 1 2 (bs [109]) w6 H32.out (by omega) (by decide)).mono ?_; rintro e w7 ⟨rfl, rfl⟩
  have hsz1 : 1 ≤ sd.size := by have := H32.out; omega
  go_wp2_with fail
  obtain ⟨s1, hs1⟩ : ∃ s1, s1 = sd.extract 1 sd.size := ⟨_, rfl⟩
  rw [← hs1]
  have hz31 : (s1.size == 32) = false := by rw [beq_eq_false_iff_ne, hs1, ByteArray.size_extract]; have := H32.out; omega
  clear hs1
  refine (public_bad s1 0 w6 (Or.inl hz31)).mono ?_; rintro e w7 ⟨rfl, hb7⟩
  have B7 := Lib.hid (B6.out.trans (hb7.mono B6.out.size))
  have KP7 := Lib.hid (KP6.out.below hb7 KP6.out.lt)
  clear hb7
  obtain ⟨w8, hw8⟩ : ∃ W, W = (w7.alloc (.cells Z16.toArray 23)).setRow w7.heap.size Z16.toArray := ⟨_, rfl⟩
  have B8' := Lib.hid (show Below w.heap.size w w8 by rw [hw8]; exact belowRow (B7.out.alloc B7.out.size _) B7.out.size _)
  have KP8 := Lib.hid (show Blk w8 w2.heap.size 23 (B8 p) by rw [hw8]; exact (KP7.out.alloc _).setRow (by have := KP7.out.lt; omega) _)
  have HW8 := Lib.hid hw8
  clear hw8
  go_wp2_with (with_reducible refine wpList_store_row rfl 23 (.tmp 12) (.tmp 47) rfl w7.heap.size Z16.toArray rfl rfl 23 _ (heap_alloc_new w7 _) Z16_sz rfl Z16_one ?_; rw [← HW8.out])
  refine ((digits_any ZL w8 rfl).mono ?_ : Calls Tryd.prog 10 #[.agg Z16.toArray] w8 _); rintro e wd ⟨gd, rfl, hgd, hgl, hb8⟩
  have KD8 := Lib.hid hgd
  replace B8' := Lib.hid (B8'.out.trans (hb8.mono B8'.out.size))
  replace KP8 := Lib.hid (KP8.out.below hb8 KP8.out.lt)
  have HC0 := Lib.hid (show (NI (digs ZL))[0]? = some (.int .i64 0) by rfl)
  have HC64 := Lib.hid (show (NI (digs ZL))[64]? = some (.int .i64 3) by rfl)
  have HC67 := Lib.hid (show (NI (digs ZL))[67]? = some (.int .i64 0) by rfl)
  clear hgd hgl hb8
  go_wp2_with fail
  refine wp_region_held (S := fun W => Blk W w2.heap.size 23 (B8 p) ∧ Blk W gd 43 (NI (digs ZL))) (by kernel_rfl) ?_
  change wpAnyH _ _ _ _ _ _ _ _ (World.drew wd)
  have hS0 : Blk (World.drew wd) w2.heap.size 23 (B8 p) ∧ Blk (World.drew wd) gd 43 (NI (digs ZL)) := ⟨KP8.out.drew, KD8.out.drew⟩
  have BD := Lib.hid B8'.out.drew
  generalize World.drew wd = Wd at hS0 BD ⊢
  refine wpAnyH_take (i := 0) (oi := { dst := some 66, op := Op.move (Operand.tmp 6), type := 3, pos := "law.go:32", after := #[], guard := none }) (v := .int .i64 1) rfl (by kernel_rfl) (by kernel_rfl) (by kernel_rfl) (fun _ _ _ h => h) (Or.inl ⟨by rfl, fun W hW => ?y1⟩) hS0 ?_
  case y1 => go_simp
  try dsimp only [Act.put]
  try simp only [List.setIfInBounds_toArray, List.set_cons_zero, List.set_cons_succ]
  refine wpAnyH_take (i := 1) (oi := { dst := some 67, op := Op.binOp BinOp.eql 3 (Operand.tmp 66) (Operand.const (Value.int IntKind.i64 1)) 3, type := 4, pos := "law.go:32", after := #[{ on := 0, ground := Ground.data }], guard := none }) (v := .bool true) rfl (by kernel_rfl) (by kernel_rfl) (by kernel_rfl) (fun _ _ _ h => h) (Or.inl ⟨by rfl, fun W hW => ?y2⟩) hS0 ?_
  case y2 => go_simp
  try dsimp only [Act.put]
  try simp only [List.setIfInBounds_toArray, List.set_cons_zero, List.set_cons_succ]
  refine wpAnyH_take (i := 2) (oi := { dst := some 68, op := Op.move (Operand.tmp 67), type := 4, pos := "law.go:32", after := #[{ on := 1, ground := Ground.data }], guard := none }) (v := .bool true) rfl (by kernel_rfl) (by kernel_rfl) (by kernel_rfl) (fun _ _ _ h => h) (Or.inl ⟨by rfl, fun W hW => ?y3⟩) hS0 ?_
  case y3 => go_simp
  try dsimp only [Act.put]
  try simp only [List.setIfInBounds_toArray, List.set_cons_zero, List.set_cons_succ]
  refine wpAnyH_take (i := 3) (oi := { dst := some 69, op := Op.move (Operand.tmp 9), type := 29, pos := "law.go:32", after := #[{ on := 2, ground := Ground.guard }], guard := some (2, true) }) (v := .int .i64 19) rfl (by kernel_rfl) (by kernel_rfl) (by kernel_rfl) (fun _ _ _ h => h) (Or.inl ⟨by rfl, fun W hW => ?y4⟩) hS0 ?_
  case y4 => go_simp
  try dsimp only [Act.put]
  try simp only [List.setIfInBounds_toArray, List.set_cons_zero, List.set_cons_succ]
  refine wpAnyH_take (i := 4) (oi := { dst := some 70, op := Op.binOp BinOp.eql 29 (Operand.tmp 69) (Operand.const (Value.int IntKind.i64 19)) 29, type := 4, pos := "law.go:32", after := #[{ on := 3, ground := Ground.data }, { on := 2, ground := Ground.guard }], guard := some (2, true) }) (v := .bool true) rfl (by kernel_rfl) (by kernel_rfl) (by kernel_rfl) (fun _ _ _ h => h) (Or.inl ⟨by rfl, fun W hW => ?y5⟩) hS0 ?_
  case y5 => go_simp
  try dsimp only [Act.put]
  try simp only [List.setIfInBounds_toArray, List.set_cons_zero, List.set_cons_succ]
  refine wpAnyH_take (i := 5) (oi := { dst := some 71, op := Op.pick (Operand.tmp 68) (Operand.tmp 70) (Operand.const (Value.bool false)), type := 4, pos := "law.go:32", after := #[{ on := 2, ground := Ground.data }, { on := 4, ground := Ground.data }], guard := none }) (v := .bool true) rfl (by kernel_rfl) (by kernel_rfl) (by kernel_rfl) (fun _ _ _ h => h) (Or.inl ⟨by rfl, fun W hW => ?y6⟩) hS0 ?_
  case y6 => go_simp
  try dsimp only [Act.put]
  try simp only [List.setIfInBounds_toArray, List.set_cons_zero, List.set_cons_succ]
  refine wpAnyH_take (i := 6) (oi := { dst := some 72, op := Op.move (Operand.tmp 71), type := 4, pos := "law.go:32", after := #[{ on := 5, ground := Ground.data }, { on := 2, ground := Ground.chain }], guard := none }) (v := .bool true) rfl (by kernel_rfl) (by kernel_rfl) (by kernel_rfl) (fun _ _ _ h => h) (Or.inl ⟨by rfl, fun W hW => ?y7⟩) hS0 ?_
  case y7 => go_simp
  try dsimp only [Act.put]
  try simp only [List.setIfInBounds_toArray, List.set_cons_zero, List.set_cons_succ]
  refine wpAnyH_take (i := 7) (oi := { dst := some 73, op := Op.move (Operand.tmp 11), type := 29, pos := "law.go:32", after := #[{ on := 6, ground := Ground.guard }], guard := some (6, true) }) (v := .int .i64 20) rfl (by kernel_rfl) (by kernel_rfl) (by kernel_rfl) (fun _ _ _ h => h) (Or.inl ⟨by rfl, fun W hW => ?y8⟩) hS0 ?_
  case y8 => go_simp
  try dsimp only [Act.put]
  try simp only [List.setIfInBounds_toArray, List.set_cons_zero, List.set_cons_succ]
  refine wpAnyH_take (i := 8) (oi := { dst := some 74, op := Op.binOp BinOp.eql 29 (Operand.tmp 73) (Operand.const (Value.int IntKind.i64 20)) 29, type := 4, pos := "law.go:32", after := #[{ on := 7, ground := Ground.data }, { on := 6, ground := Ground.guard }], guard := some (6, true) }) (v := .bool true) rfl (by kernel_rfl) (by kernel_rfl) (by kernel_rfl) (fun _ _ _ h => h) (Or.inl ⟨by rfl, fun W hW => ?y9⟩) hS0 ?_
  case y9 => go_simp
  try dsimp only [Act.put]
  try simp only [List.setIfInBounds_toArray, List.set_cons_zero, List.set_cons_succ]
  refine wpAnyH_take (i := 9) (oi := { dst := some 75, op := Op.pick (Operand.tmp 72) (Operand.tmp 74) (Operand.const (Value.bool false)), type := 4, pos := "law.go:32", after := #[{ on := 6, ground := Ground.data }, { on := 8, ground := Ground.data }], guard := none }) (v := .bool true) rfl (by kernel_rfl) (by kernel_rfl) (by kernel_rfl) (fun _ _ _ h => h) (Or.inl ⟨by rfl, fun W hW => ?y10⟩) hS0 ?_
  case y10 => go_simp
  try dsimp only [Act.put]
  try simp only [List.setIfInBounds_toArray, List.set_cons_zero, List.set_cons_succ]
  refine wpAnyH_take (i := 10) (oi := { dst := some 76, op := Op.move (Operand.tmp 75), type := 4, pos := "law.go:32", after := #[{ on := 9, ground := Ground.data }, { on := 6, ground := Ground.chain }], guard := none }) (v := .bool true) rfl (by kernel_rfl) (by kernel_rfl) (by kernel_rfl) (fun _ _ _ h => h) (Or.inl ⟨by rfl, fun W hW => ?y11⟩) hS0 ?_
  case y11 => go_simp
  try dsimp only [Act.put]
  try simp only [List.setIfInBounds_toArray, List.set_cons_zero, List.set_cons_succ]
  refine wpAnyH_take (i := 11) (oi := { dst := some 77, op := Op.move (Operand.tmp 13), type := 29, pos := "law.go:32", after := #[{ on := 10, ground := Ground.guard }], guard := some (10, true) }) (v := .int .i64 1) rfl (by kernel_rfl) (by kernel_rfl) (by kernel_rfl) (fun _ _ _ h => h) (Or.inl ⟨by rfl, fun W hW => ?y12⟩) hS0 ?_
  case y12 => go_simp
  try dsimp only [Act.put]
  try simp only [List.setIfInBounds_toArray, List.set_cons_zero, List.set_cons_succ]
  refine wpAnyH_take (i := 12) (oi := { dst := some 78, op := Op.binOp BinOp.eql 29 (Operand.tmp 77) (Operand.const (Value.int IntKind.i64 1)) 29, type := 4, pos := "law.go:32", after := #[{ on := 11, ground := Ground.data }, { on := 10, ground := Ground.guard }], guard := some (10, true) }) (v := .bool true) rfl (by kernel_rfl) (by kernel_rfl) (by kernel_rfl) (fun _ _ _ h => h) (Or.inl ⟨by rfl, fun W hW => ?y13⟩) hS0 ?_
  case y13 => go_simp
  try dsimp only [Act.put]
  try simp only [List.setIfInBounds_toArray, List.set_cons_zero, List.set_cons_succ]
  refine wpAnyH_take (i := 13) (oi := { dst := some 79, op := Op.pick (Operand.tmp 76) (Operand.tmp 78) (Operand.const (Value.bool false)), type := 4, pos := "law.go:32", after := #[{ on := 10, ground := Ground.data }, { on := 12, ground := Ground.data }], guard := none }) (v := .bool true) rfl (by kernel_rfl) (by kernel_rfl) (by kernel_rfl) (fun _ _ _ h => h) (Or.inl ⟨by rfl, fun W hW => ?y14⟩) hS0 ?_
  case y14 => go_simp
  try dsimp only [Act.put]
  try simp only [List.setIfInBounds_toArray, List.set_cons_zero, List.set_cons_succ]
  refine wpAnyH_take (i := 14) (oi := { dst := some 80, op := Op.move (Operand.tmp 79), type := 4, pos := "law.go:32", after := #[{ on := 13, ground := Ground.data }, { on := 10, ground := Ground.chain }], guard := none }) (v := .bool true) rfl (by kernel_rfl) (by kernel_rfl) (by kernel_rfl) (fun _ _ _ h => h) (Or.inl ⟨by rfl, fun W hW => ?y15⟩) hS0 ?_
  case y15 => go_simp
  try dsimp only [Act.put]
  try simp only [List.setIfInBounds_toArray, List.set_cons_zero, List.set_cons_succ]
  refine wpAnyH_take (i := 15) (oi := { dst := some 81, op := Op.move (Operand.tmp 14), type := 25, pos := "law.go:32", after := #[{ on := 14, ground := Ground.guard }], guard := some (14, true) }) (v := .slice (some ⟨gd, 0, none⟩) 68 68) rfl (by kernel_rfl) (by kernel_rfl) (by kernel_rfl) (fun _ _ _ h => h) (Or.inl ⟨by rfl, fun W hW => ?y16⟩) hS0 ?_
  case y16 => go_simp
  try dsimp only [Act.put]
  try simp only [List.setIfInBounds_toArray, List.set_cons_zero, List.set_cons_succ]
  refine wpAnyH_take (i := 16) (oi := { dst := some 82, op := Op.indexAddr 25 (Operand.tmp 81) (Operand.const (Value.int IntKind.i64 0)), type := 0, pos := "law.go:32", after := #[{ on := 15, ground := Ground.data }, { on := 14, ground := Ground.guard }], guard := some (14, true) }) (v := .pointer (some ⟨gd, 0, none⟩)) rfl (by kernel_rfl) (by kernel_rfl) (by kernel_rfl) (fun _ _ _ h => h) (Or.inl ⟨by rfl, fun W hW => ?y17⟩) hS0 ?_
  case y17 => go_simp
  try dsimp only [Act.put]
  try simp only [List.setIfInBounds_toArray, List.set_cons_zero, List.set_cons_succ]
  refine wpAnyH_take (i := 17) (oi := { dst := some 83, op := Op.load 3 (Operand.tmp 82), type := 3, pos := "law.go:32", after := #[{ on := 16, ground := Ground.data }, { on := 14, ground := Ground.guard }], guard := some (14, true) }) (v := .int .i64 0) rfl (by kernel_rfl) (by kernel_rfl) (by kernel_rfl) (fun _ _ _ h => h) (Or.inl ⟨by rfl, fun W hW => by have hcl : W.cell? ⟨gd, 0, none⟩ = some (.int .i64 0) := (Blk.cell hW.2 0).trans HC0.out; go_simp⟩) hS0 ?_
  try dsimp only [Act.put]
  try simp only [List.setIfInBounds_toArray, List.set_cons_zero, List.set_cons_succ]
  refine wpAnyH_take (i := 18) (oi := { dst := some 84, op := Op.binOp BinOp.eql 3 (Operand.tmp 83) (Operand.const (Value.int IntKind.i64 0)) 3, type := 4, pos := "law.go:32", after := #[{ on := 17, ground := Ground.data }, { on := 14, ground := Ground.guard }], guard := some (14, true) }) (v := .bool true) rfl (by kernel_rfl) (by kernel_rfl) (by kernel_rfl) (fun _ _ _ h => h) (Or.inl ⟨by rfl, fun W hW => ?y19⟩) hS0 ?_
  case y19 => go_simp
  try dsimp only [Act.put]
  try simp only [List.setIfInBounds_toArray, List.set_cons_zero, List.set_cons_succ]
  refine wpAnyH_take (i := 19) (oi := { dst := some 85, op := Op.pick (Operand.tmp 80) (Operand.tmp 84) (Operand.const (Value.bool false)), type := 4, pos := "law.go:32", after := #[{ on := 14, ground := Ground.data }, { on := 18, ground := Ground.data }], guard := none }) (v := .bool true) rfl (by kernel_rfl) (by kernel_rfl) (by kernel_rfl) (fun _ _ _ h => h) (Or.inl ⟨by rfl, fun W hW => ?y20⟩) hS0 ?_
  case y20 => go_simp
  try dsimp only [Act.put]
  try simp only [List.setIfInBounds_toArray, List.set_cons_zero, List.set_cons_succ]
  refine wpAnyH_take (i := 20) (oi := { dst := some 86, op := Op.move (Operand.tmp 85), type := 4, pos := "law.go:32", after := #[{ on := 19, ground := Ground.data }, { on := 14, ground := Ground.chain }], guard := none }) (v := .bool true) rfl (by kernel_rfl) (by kernel_rfl) (by kernel_rfl) (fun _ _ _ h => h) (Or.inl ⟨by rfl, fun W hW => ?y21⟩) hS0 ?_
  case y21 => go_simp
  try dsimp only [Act.put]
  try simp only [List.setIfInBounds_toArray, List.set_cons_zero, List.set_cons_succ]
  refine wpAnyH_take (i := 21) (oi := { dst := some 87, op := Op.move (Operand.tmp 14), type := 25, pos := "law.go:32", after := #[{ on := 20, ground := Ground.guard }], guard := some (20, true) }) (v := .slice (some ⟨gd, 0, none⟩) 68 68) rfl (by kernel_rfl) (by kernel_rfl) (by kernel_rfl) (fun _ _ _ h => h) (Or.inl ⟨by rfl, fun W hW => ?y22⟩) hS0 ?_
  case y22 => go_simp
  try dsimp only [Act.put]
  try simp only [List.setIfInBounds_toArray, List.set_cons_zero, List.set_cons_succ]
  refine wpAnyH_take (i := 22) (oi := { dst := some 88, op := Op.indexAddr 25 (Operand.tmp 87) (Operand.const (Value.int IntKind.i64 64)), type := 0, pos := "law.go:32", after := #[{ on := 21, ground := Ground.data }, { on := 20, ground := Ground.guard }], guard := some (20, true) }) (v := .pointer (some ⟨gd, 64, none⟩)) rfl (by kernel_rfl) (by kernel_rfl) (by kernel_rfl) (fun _ _ _ h => h) (Or.inl ⟨by rfl, fun W hW => ?y23⟩) hS0 ?_
  case y23 => go_simp
  try dsimp only [Act.put]
  try simp only [List.setIfInBounds_toArray, List.set_cons_zero, List.set_cons_succ]
  refine wpAnyH_take (i := 23) (oi := { dst := some 89, op := Op.load 3 (Operand.tmp 88), type := 3, pos := "law.go:32", after := #[{ on := 22, ground := Ground.data }, { on := 20, ground := Ground.guard }], guard := some (20, true) }) (v := .int .i64 3) rfl (by kernel_rfl) (by kernel_rfl) (by kernel_rfl) (fun _ _ _ h => h) (Or.inl ⟨by rfl, fun W hW => by have hcl : W.cell? ⟨gd, 64, none⟩ = some (.int .i64 3) := (Blk.cell hW.2 64).trans HC64.out; go_simp⟩) hS0 ?_
  try dsimp only [Act.put]
  try simp only [List.setIfInBounds_toArray, List.set_cons_zero, List.set_cons_succ]
  refine wpAnyH_take (i := 24) (oi := { dst := some 90, op := Op.binOp BinOp.eql 3 (Operand.tmp 89) (Operand.const (Value.int IntKind.i64 3)) 3, type := 4, pos := "law.go:32", after := #[{ on := 23, ground := Ground.data }, { on := 20, ground := Ground.guard }], guard := some (20, true) }) (v := .bool true) rfl (by kernel_rfl) (by kernel_rfl) (by kernel_rfl) (fun _ _ _ h => h) (Or.inl ⟨by rfl, fun W hW => ?y25⟩) hS0 ?_
  case y25 => go_simp
  try dsimp only [Act.put]
  try simp only [List.setIfInBounds_toArray, List.set_cons_zero, List.set_cons_succ]
  refine wpAnyH_take (i := 25) (oi := { dst := some 91, op := Op.pick (Operand.tmp 86) (Operand.tmp 90) (Operand.const (Value.bool false)), type := 4, pos := "law.go:32", after := #[{ on := 20, ground := Ground.data }, { on := 24, ground := Ground.data }], guard := none }) (v := .bool true) rfl (by kernel_rfl) (by kernel_rfl) (by kernel_rfl) (fun _ _ _ h => h) (Or.inl ⟨by rfl, fun W hW => ?y26⟩) hS0 ?_
  case y26 => go_simp
  try dsimp only [Act.put]
  try simp only [List.setIfInBounds_toArray, List.set_cons_zero, List.set_cons_succ]
  refine wpAnyH_take (i := 26) (oi := { dst := some 92, op := Op.move (Operand.tmp 91), type := 4, pos := "law.go:32", after := #[{ on := 25, ground := Ground.data }, { on := 20, ground := Ground.chain }], guard := none }) (v := .bool true) rfl (by kernel_rfl) (by kernel_rfl) (by kernel_rfl) (fun _ _ _ h => h) (Or.inl ⟨by rfl, fun W hW => ?y27⟩) hS0 ?_
  case y27 => go_simp
  try dsimp only [Act.put]
  try simp only [List.setIfInBounds_toArray, List.set_cons_zero, List.set_cons_succ]
  refine wpAnyH_take (i := 27) (oi := { dst := some 93, op := Op.move (Operand.tmp 14), type := 25, pos := "law.go:32", after := #[{ on := 26, ground := Ground.guard }], guard := some (26, true) }) (v := .slice (some ⟨gd, 0, none⟩) 68 68) rfl (by kernel_rfl) (by kernel_rfl) (by kernel_rfl) (fun _ _ _ h => h) (Or.inl ⟨by rfl, fun W hW => ?y28⟩) hS0 ?_
  case y28 => go_simp
  try dsimp only [Act.put]
  try simp only [List.setIfInBounds_toArray, List.set_cons_zero, List.set_cons_succ]
  refine wpAnyH_take (i := 28) (oi := { dst := some 94, op := Op.indexAddr 25 (Operand.tmp 93) (Operand.const (Value.int IntKind.i64 67)), type := 0, pos := "law.go:32", after := #[{ on := 27, ground := Ground.data }, { on := 26, ground := Ground.guard }], guard := some (26, true) }) (v := .pointer (some ⟨gd, 67, none⟩)) rfl (by kernel_rfl) (by kernel_rfl) (by kernel_rfl) (fun _ _ _ h => h) (Or.inl ⟨by rfl, fun W hW => ?y29⟩) hS0 ?_
  case y29 => go_simp
  try dsimp only [Act.put]
  try simp only [List.setIfInBounds_toArray, List.set_cons_zero, List.set_cons_succ]
  refine wpAnyH_take (i := 29) (oi := { dst := some 95, op := Op.load 3 (Operand.tmp 94), type := 3, pos := "law.go:32", after := #[{ on := 28, ground := Ground.data }, { on := 26, ground := Ground.guard }], guard := some (26, true) }) (v := .int .i64 0) rfl (by kernel_rfl) (by kernel_rfl) (by kernel_rfl) (fun _ _ _ h => h) (Or.inl ⟨by rfl, fun W hW => by have hcl : W.cell? ⟨gd, 67, none⟩ = some (.int .i64 0) := (Blk.cell hW.2 67).trans HC67.out; go_simp⟩) hS0 ?_
  try dsimp only [Act.put]
  try simp only [List.setIfInBounds_toArray, List.set_cons_zero, List.set_cons_succ]
  refine wpAnyH_take (i := 30) (oi := { dst := some 96, op := Op.binOp BinOp.eql 3 (Operand.tmp 95) (Operand.const (Value.int IntKind.i64 0)) 3, type := 4, pos := "law.go:32", after := #[{ on := 29, ground := Ground.data }, { on := 26, ground := Ground.guard }], guard := some (26, true) }) (v := .bool true) rfl (by kernel_rfl) (by kernel_rfl) (by kernel_rfl) (fun _ _ _ h => h) (Or.inl ⟨by rfl, fun W hW => ?y31⟩) hS0 ?_
  case y31 => go_simp
  try dsimp only [Act.put]
  try simp only [List.setIfInBounds_toArray, List.set_cons_zero, List.set_cons_succ]
  refine wpAnyH_take (i := 31) (oi := { dst := some 97, op := Op.pick (Operand.tmp 92) (Operand.tmp 96) (Operand.const (Value.bool false)), type := 4, pos := "law.go:32", after := #[{ on := 26, ground := Ground.data }, { on := 30, ground := Ground.data }], guard := none }) (v := .bool true) rfl (by kernel_rfl) (by kernel_rfl) (by kernel_rfl) (fun _ _ _ h => h) (Or.inl ⟨by rfl, fun W hW => ?y32⟩) hS0 ?_
  case y32 => go_simp
  try dsimp only [Act.put]
  try simp only [List.setIfInBounds_toArray, List.set_cons_zero, List.set_cons_succ]
  refine wpAnyH_take (i := 32) (oi := { dst := some 98, op := Op.move (Operand.tmp 97), type := 4, pos := "law.go:32", after := #[{ on := 31, ground := Ground.data }, { on := 26, ground := Ground.chain }], guard := none }) (v := .bool true) rfl (by kernel_rfl) (by kernel_rfl) (by kernel_rfl) (fun _ _ _ h => h) (Or.inl ⟨by rfl, fun W hW => ?y33⟩) hS0 ?_
  case y33 => go_simp
  try dsimp only [Act.put]
  try simp only [List.setIfInBounds_toArray, List.set_cons_zero, List.set_cons_succ]
  refine wpAnyH_take (i := 33) (oi := { dst := some 99, op := Op.load 23 (Operand.tmp 2), type := 23, pos := "law.go:32", after := #[{ on := 32, ground := Ground.guard }], guard := some (32, true) }) (v := .agg (B8 p).toArray) rfl (by kernel_rfl) (by kernel_rfl) (by kernel_rfl) (fun _ _ _ h => h) (Or.inl ⟨by rfl, fun W hW => exec_load_row _ _ 23 (.tmp 2) rfl ⟨w2.heap.size, 0, none⟩ rfl (B8 p) W (run_loadVar_at W _ 23 (B8 p) (.array 16 5) (Blk.at hW.1) Tryd.underlying23 rfl (size23 _ HPl.out))⟩) hS0 ?_
  try dsimp only [Act.put]
  try simp only [List.setIfInBounds_toArray, List.set_cons_zero, List.set_cons_succ]
  refine wpAnyH_take (i := 35) (oi := { dst := some 101, op := Op.load 23 (Operand.tmp 2), type := 23, pos := "law.go:32", after := #[{ on := 32, ground := Ground.guard }], guard := some (32, true) }) (v := .agg (B8 p).toArray) rfl (by kernel_rfl) (by kernel_rfl) (by kernel_rfl) (fun _ _ _ h => h) (Or.inl ⟨by rfl, fun W hW => exec_load_row _ _ 23 (.tmp 2) rfl ⟨w2.heap.size, 0, none⟩ rfl (B8 p) W (run_loadVar_at W _ 23 (B8 p) (.array 16 5) (Blk.at hW.1) Tryd.underlying23 rfl (size23 _ HPl.out))⟩) hS0 ?_
  try dsimp only [Act.put]
  try simp only [List.setIfInBounds_toArray, List.set_cons_zero, List.set_cons_succ]
  refine wpAnyH_ready (rs := [34]) (by kernel_rfl) (by simp) ?_
  refine AllReadyH.cons (o := { dst := some 100, op := Op.call { callee := Callee.value (Operand.func 16), args := #[Operand.tmp 99, Operand.const (Value.int IntKind.i64 1), Operand.const (Value.string { data := #[109] })], argTypes := #[23, 3, 9] }, type := 23, pos := "law.go:32", after := #[{ on := 33, ground := Ground.data }, { on := 32, ground := Ground.chain }, { on := 32, ground := Ground.guard }], guard := some (32, true) }) rfl (fun K hK => ?_) AllReadyH.nil
  rw [if_pos (by rfl)]
  go_simp
  refine (digest_any p 1 (bs [109]) Wd HPl.out (by unfold okInt; omega) (by decide) (HT.out.below BD.out HT.out.1) D1 HD1).mono ?_; rintro e w9 ⟨rfl, hb⟩
  have B9 := Lib.hid (BD.out.trans (hb.mono BD.out.size))
  have hS9 : Blk w9 w2.heap.size 23 (B8 p) ∧ Blk w9 gd 43 (NI (digs ZL)) := ⟨hS0.1.below hb hS0.1.lt, hS0.2.below hb hS0.2.lt⟩
  clear hb
  go_wp2_with fail
  refine hK.out _ _ hS9 (fun _ => ?_)
  clear hK K
  try dsimp only [Act.put]
  try simp only [List.setIfInBounds_toArray, List.set_cons_zero, List.set_cons_succ]
  refine wpAnyH_ready (rs := [36]) (by kernel_rfl) (by simp) ?_
  refine AllReadyH.cons (o := { dst := some 102, op := Op.call { callee := Callee.value (Operand.func 16), args := #[Operand.tmp 101, Operand.const (Value.int IntKind.i64 0), Operand.const (Value.string { data := #[109] })], argTypes := #[23, 3, 9] }, type := 23, pos := "law.go:32", after := #[{ on := 35, ground := Ground.data }, { on := 34, ground := Ground.chain }, { on := 32, ground := Ground.guard }], guard := some (32, true) }) rfl (fun K hK => ?_) AllReadyH.nil
  rw [if_pos (by rfl)]
  go_simp
  refine (digest_any p 0 (bs [109]) w9 HPl.out (by unfold okInt; omega) (by decide) (HT.out.below B9.out HT.out.1) D0 HD0).mono ?_; rintro e w10 ⟨rfl, hb⟩
  have B10 := Lib.hid (B9.out.trans (hb.mono B9.out.size))
  have hS10 : Blk w10 w2.heap.size 23 (B8 p) ∧ Blk w10 gd 43 (NI (digs ZL)) := ⟨hS9.1.below hb hS9.1.lt, hS9.2.below hb hS9.2.lt⟩
  clear hb
  go_wp2_with fail
  refine hK.out _ _ hS10 (fun _ => ?_)
  clear hK K
  try dsimp only [Act.put]
  try simp only [List.setIfInBounds_toArray, List.set_cons_zero, List.set_cons_succ]
  refine wpAnyH_ready (rs := [37]) (by kernel_rfl) (by simp) ?_
  refine AllReadyH.cons (o := { dst := some 103, op := Op.binOp BinOp.neq 23 (Operand.tmp 100) (Operand.tmp 102) 23, type := 4, pos := "law.go:32", after := #[{ on := 34, ground := Ground.data }, { on := 36, ground := Ground.data }, { on := 32, ground := Ground.guard }], guard := some (32, true) }) rfl (fun K hK => ?_) AllReadyH.nil
  rw [if_pos (by rfl)]
  have heq := eqi23 D1 D0 L1.out L0.out w10
  rw [hne] at heq
  go_simp
  refine hK.out _ _ hS10 (fun _ => ?_)
  clear hK K
  try dsimp only [Act.put]
  try simp only [List.setIfInBounds_toArray, List.set_cons_zero, List.set_cons_succ]
  refine wpAnyH_ready (rs := [38]) (by kernel_rfl) (by simp) ?_
  refine AllReadyH.cons (o := { dst := some 104, op := Op.pick (Operand.tmp 98) (Operand.tmp 103) (Operand.const (Value.bool false)), type := 4, pos := "law.go:32", after := #[{ on := 32, ground := Ground.data }, { on := 37, ground := Ground.data }], guard := none }) rfl (fun K hK => ?_) AllReadyH.nil
  rw [if_pos (by rfl)]
  go_simp
  refine hK.out _ _ hS10 (fun _ => ?_)
  clear hK K
  try dsimp only [Act.put]
  try simp only [List.setIfInBounds_toArray, List.set_cons_zero, List.set_cons_succ]
  refine wpAnyH_ready (rs := [39]) (by kernel_rfl) (by simp) ?_
  refine AllReadyH.cons (o := { dst := some 0, op := Op.assign (Operand.tmp 104), type := 4, pos := "law.go:32", after := #[{ on := 38, ground := Ground.data }, { on := 36, ground := Ground.chain }, { on := 0, ground := Ground.phase }, { on := 1, ground := Ground.phase }, { on := 2, ground := Ground.phase }, { on := 3, ground := Ground.phase }, { on := 4, ground := Ground.phase }, { on := 5, ground := Ground.phase }, { on := 6, ground := Ground.phase }, { on := 7, ground := Ground.phase }, { on := 8, ground := Ground.phase }, { on := 9, ground := Ground.phase }, { on := 10, ground := Ground.phase }, { on := 11, ground := Ground.phase }, { on := 12, ground := Ground.phase }, { on := 13, ground := Ground.phase }, { on := 14, ground := Ground.phase }, { on := 15, ground := Ground.phase }, { on := 16, ground := Ground.phase }, { on := 17, ground := Ground.phase }, { on := 18, ground := Ground.phase }, { on := 19, ground := Ground.phase }, { on := 20, ground := Ground.phase }, { on := 21, ground := Ground.phase }, { on := 22, ground := Ground.phase }, { on := 23, ground := Ground.phase }, { on := 24, ground := Ground.phase }, { on := 25, ground := Ground.phase }, { on := 26, ground := Ground.phase }, { on := 27, ground := Ground.phase }, { on := 28, ground := Ground.phase }, { on := 29, ground := Ground.phase }, { on := 30, ground := Ground.phase }, { on := 31, ground := Ground.phase }, { on := 32, ground := Ground.phase }, { on := 33, ground := Ground.phase }, { on := 34, ground := Ground.phase }, { on := 35, ground := Ground.phase }, { on := 36, ground := Ground.phase }, { on := 37, ground := Ground.phase }, { on := 38, ground := Ground.phase }], guard := none }) rfl (fun K hK => ?_) AllReadyH.nil
  rw [if_pos (by rfl)]
  go_simp
  refine hK.out _ _ hS10 (fun _ => ?_)
  clear hK K
  try dsimp only [Act.put]
  try simp only [List.setIfInBounds_toArray, List.set_cons_zero, List.set_cons_succ]
  refine wpAnyH_done (by kernel_rfl) ?_ _
  try dsimp only [Act.put]
  try simp only [List.setIfInBounds_toArray, List.set_cons_zero, List.set_cons_succ]
  go_wp2_with fail
  go_ret
  exact ⟨rfl, B10.out⟩
end Go.Proofs.YtgonidjajmjniaaDoor
