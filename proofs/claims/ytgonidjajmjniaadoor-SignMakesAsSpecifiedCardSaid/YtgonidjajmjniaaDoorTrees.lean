/-
  The contracts of sign's grow, climb, isIndex and Public.
  Conditions: a height from 0 to 6; the table of the round constants is as the text lays it.
-/
import Derived.Test.YtgonidjajmjniaaDoorGrows
import Derived.Laws.EntriesVeiled
namespace Go.Proofs.YtgonidjajmjniaaDoor
open Go.RowKit Wr Sh
set_option linter.unusedVariables false
set_option maxRecDepth 100000

theorem info23 : (Tryd.prog.info? 23).map (fun i => (i.zero, i.size, i.bytes)) = some (some (.agg Z16.toArray), 16, 16) := by kernel_rfl
theorem made16 (h : Nat) (hh : h ≤ 6) : madeCells (Value.agg Z16.toArray).cells (h * 16) = (B8 (List.replicate (16 * h) 0)).toArray := by
  rcases (show h = 0 ∨ h = 1 ∨ h = 2 ∨ h = 3 ∨ h = 4 ∨ h = 5 ∨ h = 6 by omega) with rfl | rfl | rfl | rfl | rfl | rfl | rfl <;> kernel_rfl
theorem mkbes (h : Nat) (hh : h ≤ 6) (W : World) : (Instr.makeSlice 47 (.int .i64 (h : Int)) (.int .i64 (h : Int))).run Tryd.prog W = .ok (.slice (some ⟨W.heap.size, 0, none⟩) h h) (W.alloc (.cells (B8 (List.replicate (16 * h) 0)).toArray 23)) := by
  obtain ⟨i0, hi0, hz0, hz1, hz2⟩ := info_parts info23
  have hu : Tryd.prog.underlying 47 = some (.slice 23) := by kernel_rfl
  have := run_makeSlice (w := W) (P := Tryd.prog) 47 23 i0 (.agg Z16.toArray) hu hi0 hz0 .i64 .i64 (h : Int) (h : Int) (by omega) (Int.le_refl _) (by rw [hz1, Int.toNat_natCast]; omega) (by rw [hz2]; omega) (by omega)
  rw [hz1, Int.toNat_natCast, made16 h hh] at this
  exact this

set_option maxHeartbeats 4000000 in
theorem growth_any (sd : ByteArray) (ix h : Nat) (w : World) (hs : sd.size ≤ 1048576) (hh : h ≤ 6) (hix : ix < 2 ^ h) (ht : Tab 1 w) (R : List UInt8) (hR : R = node sd.data.toList h 0) :
    Calls Tryd.prog 24 #[.string sd, .int .i64 (h : Int), .int .i64 (ix : Int)] w fun e w' => ∃ G, e = .returned (.tuple #[.agg (B8 R).toArray, .slice (some ⟨G, 0, none⟩) h h]) ∧ Blk w' G 23 (B8 (bes sd.data.toList ix h)) ∧ w.heap.size ≤ G ∧ Below w.heap.size w w' := by
  have hp6 : 2 ^ h ≤ 64 := Nat.le_trans (Nat.pow_le_pow_right (by decide) hh) (by decide)
  have hix6 : ix < 64 := by omega
  have h0 : ix / 2 ^ h = 0 := Nat.div_eq_of_lt hix
  obtain ⟨L, hL⟩ : ∃ L, L = gr sd.data.toList ix h 0 (List.replicate (16 * h) 0) := ⟨_, rfl⟩
  have HBes := Lib.hid (show L = bes sd.data.toList ix h by rw [hL]; exact gr_all _ _ _ hix _ (by simp))
  have HRl := Lib.hid (show R.length = 16 by rw [hR]; exact node_len _ _ _)
  have HR := Lib.hid hR
  have HL := Lib.hid hL
  have HN0 := Lib.hid (show 0 ≠ sib (ix / 2 ^ h) by rw [h0]; simp [sib])
  have HZL := Lib.hid (show (List.replicate (16 * h) (0 : UInt8)).length = 16 * h by simp)
  have HT := Lib.hid ht
  have HG1 := Lib.hid (show w.heap.size + 1 + 1 + 1 ≠ 1 by have := ht.1; omega)
  have hmf : ∀ (fn : Fn) (first cap : Array Value) (w : World), (Instr.makeFunc fn first cap).run Tryd.prog w = .ok (.func fn first cap) w := fun _ _ _ _ => rfl
  have hmk := mkbes h hh
  have hZ := hZ16
  obtain ⟨W1, hW1⟩ : ∃ W, W = (((((w.alloc (.cells #[.string sd] 9)).alloc (.cells #[.int .i64 (ix : Int)] 3)).alloc (.cells Z16.toArray 23)).alloc (.cells (B8 (List.replicate (16 * h) 0)).toArray 23)).alloc (.cells #[.slice (some ⟨w.heap.size + 1 + 1 + 1, 0, none⟩) h h] 47)).alloc (.cells #[(.func (.func 44) #[] #[.pointer (some ⟨w.heap.size, 0, none⟩), .pointer (some ⟨w.heap.size + 1 + 1 + 1 + 1 + 1, 0, none⟩), .pointer (some ⟨w.heap.size + 1, 0, none⟩), .pointer (some ⟨w.heap.size + 1 + 1 + 1 + 1, 0, none⟩)])] 70) := ⟨_, rfl⟩
  have cell0 : ∀ {g : Nat} {t : TypeId} {v : Value}, Blk W1 g t [v] → W1.cell? ⟨g, 0, none⟩ = some v := fun h => by rw [h.cell]; rfl
  have kS : Blk W1 (w.heap.size) 9 [.string sd] := by rw [hW1]; exact ((((((Blk.new w 9 [.string sd]).alloc _).alloc _).alloc _).alloc _).alloc _)
  have kI : Blk W1 (w.heap.size + 1) 3 [.int .i64 (ix : Int)] := by rw [hW1]; exact (((((Blk.newAt _ _ 3 [.int .i64 (ix : Int)] (by simp)).alloc _).alloc _).alloc _).alloc _)
  have kR : Blk W1 (w.heap.size + 1 + 1) 23 Z16 := by rw [hW1]; exact ((((Blk.newAt _ _ 23 Z16 (by simp)).alloc _).alloc _).alloc _)
  have kG : Blk W1 (w.heap.size + 1 + 1 + 1) 23 (B8 (List.replicate (16 * h) 0)) := by rw [hW1]; exact (((Blk.newAt _ _ 23 (B8 (List.replicate (16 * h) 0)) (by simp)).alloc _).alloc _)
  have kB : Blk W1 (w.heap.size + 1 + 1 + 1 + 1) 47 [.slice (some ⟨w.heap.size + 1 + 1 + 1, 0, none⟩) h h] := by rw [hW1]; exact ((Blk.newAt _ _ 47 [.slice (some ⟨w.heap.size + 1 + 1 + 1, 0, none⟩) h h] (by simp)).alloc _)
  have kN : Blk W1 (w.heap.size + 1 + 1 + 1 + 1 + 1) 70 [(.func (.func 44) #[] #[.pointer (some ⟨w.heap.size, 0, none⟩), .pointer (some ⟨w.heap.size + 1 + 1 + 1 + 1 + 1, 0, none⟩), .pointer (some ⟨w.heap.size + 1, 0, none⟩), .pointer (some ⟨w.heap.size + 1 + 1 + 1 + 1, 0, none⟩)])] := by rw [hW1]; exact Blk.newAt _ _ 70 [(.func (.func 44) #[] #[.pointer (some ⟨w.heap.size, 0, none⟩), .pointer (some ⟨w.heap.size + 1 + 1 + 1 + 1 + 1, 0, none⟩), .pointer (some ⟨w.heap.size + 1, 0, none⟩), .pointer (some ⟨w.heap.size + 1 + 1 + 1 + 1, 0, none⟩)])] (by simp)
  have EN := Lib.hid (show Env W1 (w.heap.size) (w.heap.size + 1 + 1 + 1 + 1 + 1) (w.heap.size + 1) (w.heap.size + 1 + 1 + 1 + 1) (w.heap.size + 1 + 1 + 1) h ix sd from ⟨cell0 kS, cell0 kN, cell0 kI, cell0 kB, ⟨kS.lt, by omega⟩, ⟨kN.lt, by omega⟩, ⟨kI.lt, by omega⟩, ⟨kB.lt, by omega⟩, kG.lt⟩)
  have KG := Lib.hid kG
  have KR := Lib.hid kR
  have B1 := Lib.hid (show Below w.heap.size w W1 by rw [hW1]; exact ((((((Below.refl _ _).alloc (Nat.le_refl _) _).alloc (by simp) _).alloc (by simp; omega) _).alloc (by simp; omega) _).alloc (by simp; omega) _).alloc (by simp; omega) _)
  have HW := Lib.hid hW1
  clear hix h0 hR hL ht kS kI kR kG kB kN hW1 cell0
  go_enter Tryd.func24, Tryd.ntmps24
  go_wp2_with fail
  rw [← HW.out]
  refine wp_region_held (S := fun W => W.cell? ⟨w.heap.size + 1 + 1 + 1 + 1 + 1, 0, none⟩ = some (.func (.func 44) #[] #[.pointer (some ⟨w.heap.size, 0, none⟩), .pointer (some ⟨w.heap.size + 1 + 1 + 1 + 1 + 1, 0, none⟩), .pointer (some ⟨w.heap.size + 1, 0, none⟩), .pointer (some ⟨w.heap.size + 1 + 1 + 1 + 1, 0, none⟩)]) ∧ W.cell? ⟨w.heap.size + 1 + 1 + 1 + 1, 0, none⟩ = some (.slice (some ⟨w.heap.size + 1 + 1 + 1, 0, none⟩) h h)) (by kernel_rfl) ?_
  change wpAnyH _ _ _ _ _ _ _ _ (World.drew W1)
  have hS0 : (World.drew W1).cell? ⟨w.heap.size + 1 + 1 + 1 + 1 + 1, 0, none⟩ = some (.func (.func 44) #[] #[.pointer (some ⟨w.heap.size, 0, none⟩), .pointer (some ⟨w.heap.size + 1 + 1 + 1 + 1 + 1, 0, none⟩), .pointer (some ⟨w.heap.size + 1, 0, none⟩), .pointer (some ⟨w.heap.size + 1 + 1 + 1 + 1, 0, none⟩)]) ∧ (World.drew W1).cell? ⟨w.heap.size + 1 + 1 + 1 + 1, 0, none⟩ = some (.slice (some ⟨w.heap.size + 1 + 1 + 1, 0, none⟩) h h) := ⟨EN.out.cn, EN.out.cb⟩
  have ED := Lib.hid (EN.out.grown (grown_below (some (w.heap.size + 1 + 1 + 1)) (Below.refl _ _).drew))
  have KGd := Lib.hid KG.out.drew
  have KRd := Lib.hid KR.out.drew
  have BD := Lib.hid B1.out.drew
  generalize World.drew W1 = Wd at hS0 ED KGd KRd BD ⊢
  refine wpAnyH_take (i := 0) (oi := { dst := some 13, op := Op.load 70 (Operand.tmp 9), type := 70, pos := "sign.go:173", after := #[], guard := none }) (v := (.func (.func 44) #[] #[.pointer (some ⟨w.heap.size, 0, none⟩), .pointer (some ⟨w.heap.size + 1 + 1 + 1 + 1 + 1, 0, none⟩), .pointer (some ⟨w.heap.size + 1, 0, none⟩), .pointer (some ⟨w.heap.size + 1 + 1 + 1 + 1, 0, none⟩)])) rfl (by kernel_rfl) (by kernel_rfl) (by kernel_rfl) (fun _ _ _ h => h) (Or.inl ⟨by rfl, fun W hW => by have hcl := hW.1; go_simp⟩) hS0 ?_
  try dsimp only [Act.put]
  try simp only [List.setIfInBounds_toArray, List.set_cons_zero, List.set_cons_succ]
  refine wpAnyH_take (i := 1) (oi := { dst := some 14, op := Op.move (Operand.tmp 1), type := 3, pos := "sign.go:173", after := #[], guard := none }) (v := .int .i64 (h : Int)) rfl (by kernel_rfl) (by kernel_rfl) (by kernel_rfl) (fun _ _ _ h => h) (Or.inl ⟨by rfl, fun W hW => ?y2⟩) hS0 ?_
  case y2 => go_simp
  try dsimp only [Act.put]
  try simp only [List.setIfInBounds_toArray, List.set_cons_zero, List.set_cons_succ]
  refine wpAnyH_take (i := 3) (oi := { dst := some 16, op := Op.load 47 (Operand.tmp 8), type := 47, pos := "sign.go:173", after := #[{ on := 4, ground := Ground.gcOnly Departure.lateStores }], guard := none }) (v := .slice (some ⟨w.heap.size + 1 + 1 + 1, 0, none⟩) h h) rfl (by kernel_rfl) (by kernel_rfl) (by kernel_rfl) (fun _ _ _ h => h) (Or.inl ⟨by rfl, fun W hW => by have hcl := hW.2; go_simp⟩) hS0 ?_
  try dsimp only [Act.put]
  try simp only [List.setIfInBounds_toArray, List.set_cons_zero, List.set_cons_succ]
  refine wpAnyH_ready (rs := [2]) (by kernel_rfl) (by simp) ?_
  refine AllReadyH.cons (o := { dst := some 15, op := Op.call { callee := Callee.value (Operand.tmp 13), args := #[Operand.tmp 14, Operand.const (Value.int IntKind.i64 0)], argTypes := #[3, 3] }, type := 23, pos := "sign.go:173", after := #[{ on := 0, ground := Ground.data }, { on := 1, ground := Ground.data }], guard := none }) rfl (fun K hK => ?_) AllReadyH.nil
  rw [if_pos (by rfl)]
  go_simp
  refine (grow_any sd ix h _ _ _ _ _ hs (by omega) hh HG1.out h 0 Wd _ (Nat.le_refl _) (by simpa using hp6) HZL.out (fun _ => HN0.out) ED.out KGd.out (HT.out.below BD.out HT.out.1) R HR.out L HL.out).mono ?_; rintro e w2 ⟨rfl, hg2, hf2⟩
  have KG2 := Lib.hid hg2
  have KR2 : w2.heap[w.heap.size + 1 + 1]? = some (.cells Z16.toArray 23 (0, 0)) := Blk.grown' KRd.out hf2 (by omega)
  have B2 := Lib.hid (show Below w.heap.size w w2 from BD.out.trans ⟨hf2.os, hf2.tape, hf2.output, hf2.size, fun k hk => hf2.block k (Nat.lt_of_lt_of_le hk BD.out.size) (by intro e; injection e with e; omega)⟩)
  have E2 := ED.out.grown hf2
  have hS2 := And.intro E2.cn E2.cb
  clear hg2 hf2
  go_wp2_with fail
  refine hK.out _ _ hS2 (fun _ => ?_)
  clear hK K
  try dsimp only [Act.put]
  try simp only [List.setIfInBounds_toArray, List.set_cons_zero, List.set_cons_succ]
  refine wpAnyH_ready (rs := [4]) (by kernel_rfl) (by simp) ?_
  refine AllReadyH.cons (o := { dst := none, op := Op.store 23 (Operand.tmp 6) (Operand.tmp 15), type := 0, pos := "sign.go:173", after := #[{ on := 2, ground := Ground.data }, { on := 2, ground := Ground.chain }, { on := 0, ground := Ground.phase }, { on := 1, ground := Ground.phase }, { on := 2, ground := Ground.phase }, { on := 3, ground := Ground.textOnly Departure.lateStores }], guard := none }) rfl (fun K hK => ?_) AllReadyH.nil
  rw [if_pos (by rfl)]
  refine wp_store_row 23 (.tmp 6) (.tmp 15) rfl (w.heap.size + 1 + 1) (B8 R).toArray rfl rfl 23 _ KR2 (size23' _ HRl.out) (Z16_size _ HRl.out) (one8 _) ?_
  have hS3 : (w2.setRow (w.heap.size + 1 + 1) (B8 R).toArray).cell? ⟨w.heap.size + 1 + 1 + 1 + 1 + 1, 0, none⟩ = some (.func (.func 44) #[] #[.pointer (some ⟨w.heap.size, 0, none⟩), .pointer (some ⟨w.heap.size + 1 + 1 + 1 + 1 + 1, 0, none⟩), .pointer (some ⟨w.heap.size + 1, 0, none⟩), .pointer (some ⟨w.heap.size + 1 + 1 + 1 + 1, 0, none⟩)]) ∧ (w2.setRow (w.heap.size + 1 + 1) (B8 R).toArray).cell? ⟨w.heap.size + 1 + 1 + 1 + 1, 0, none⟩ = some (.slice (some ⟨w.heap.size + 1 + 1 + 1, 0, none⟩) h h) := ⟨(World.cell?_of_block (heap_setRow_other _ _ _ _ (by simp; try omega))).trans hS2.1, (World.cell?_of_block (heap_setRow_other _ _ _ _ (by simp; try omega))).trans hS2.2⟩
  refine hK.out _ _ hS3 (fun _ => ?_)
  clear hK K
  try dsimp only [Act.put]
  try simp only [List.setIfInBounds_toArray, List.set_cons_zero, List.set_cons_succ]
  refine wpAnyH_ready (rs := [5]) (by kernel_rfl) (by simp) ?_
  refine AllReadyH.cons (o := { dst := some 7, op := Op.assign (Operand.tmp 16), type := 47, pos := "sign.go:173", after := #[{ on := 3, ground := Ground.data }, { on := 4, ground := Ground.chain }, { on := 0, ground := Ground.phase }, { on := 1, ground := Ground.phase }, { on := 2, ground := Ground.phase }, { on := 3, ground := Ground.phase }, { on := 4, ground := Ground.phase }], guard := none }) rfl (fun K hK => ?_) AllReadyH.nil
  rw [if_pos (by rfl)]
  go_simp
  refine hK.out _ _ hS3 (fun _ => ?_)
  clear hK K
  try dsimp only [Act.put]
  try simp only [List.setIfInBounds_toArray, List.set_cons_zero, List.set_cons_succ]
  refine wpAnyH_done (by kernel_rfl) ?_ _
  try dsimp only [Act.put]
  try simp only [List.setIfInBounds_toArray, List.set_cons_zero, List.set_cons_succ]
  go_wp2_with fail
  refine bodyPost_ret (v := .tuple #[.agg (B8 R).toArray, .slice (some ⟨w.heap.size + 1 + 1 + 1, 0, none⟩) h h]) ?_ rfl ⟨w.heap.size + 1 + 1 + 1, rfl, by rw [← HBes.out]; exact KG2.out.setRow (by omega) _, by omega, belowRow B2.out (by omega) _⟩
  have hr := run_loadVar_row (P := Tryd.prog) _ (w.heap.size + 1 + 1) 23 23 (B8 R).toArray (0, 0) (.array 16 5) (heap_setRow w2 (w.heap.size + 1 + 1) (B8 R).toArray _ 23 KR2) Tryd.underlying23 rfl (size23' _ HRl.out)
  simp [results, Tryd.results24, asAddr, hr]
end Go.Proofs.YtgonidjajmjniaaDoor

namespace Go.Proofs.YtgonidjajmjniaaDoor
open Go.RowKit Wr Sh
set_option linter.unusedVariables false
set_option maxRecDepth 100000

/-- The node above a leaf, j levels up. -/
def climbOf (ix : Nat) (nd B : List UInt8) : Nat → List UInt8
  | 0 => nd
  | j + 1 => if ix / 2 ^ j % 2 = 0 then nodeOf (climbOf ix nd B j) (dig16 B j) else nodeOf (dig16 B j) (climbOf ix nd B j)
theorem climb_len (ix : Nat) (nd B : List UInt8) (h : nd.length = 16) (j : Nat) : (climbOf ix nd B j).length = 16 := by
  cases j with
  | zero => exact h
  | succ j => rw [climbOf]; split <;> exact dof_len _ _
theorem and1 (n : Nat) (h : n < 4294967296) : bits .and .i64 (n : Int) 1 = ((n % 2 : Nat) : Int) := by
  have hm : (BitVec.ofInt 64 (n : Int) &&& BitVec.ofInt 64 1).toNat = n % 2 := by
    rw [BitVec.toNat_and, show (BitVec.ofInt 64 1).toNat = 1 by decide, BitVec.toNat_ofInt]
    have e : ((n : Int) % ((2 ^ 64 : Nat) : Int)).toNat = n := by
      rw [show ((2 ^ 64 : Nat) : Int) = 18446744073709551616 by decide]; omega
    rw [e, Nat.and_one_is_mod]
  show IntKind.i64.wrap ((BitVec.ofInt 64 (n : Int) &&& BitVec.ofInt 64 1).toNat : Int) = _
  rw [hm, IntKind.wrap_i64]
  omega

set_option maxHeartbeats 1000000 in
theorem isIndex_any (n : Int) (h : Nat) (w : World) (hh : h ≤ 6) : Calls Tryd.prog 27 #[.int .i64 n, .int .i64 (h : Int)] w fun e w' => e = .returned (.bool (decide (0 ≤ n ∧ n < ((2 ^ h : Nat) : Int)))) ∧ w = w' := by
  by_cases h0 : 0 ≤ n
  · rcases (show h = 0 ∨ h = 1 ∨ h = 2 ∨ h = 3 ∨ h = 4 ∨ h = 5 ∨ h = 6 by omega) with rfl | rfl | rfl | rfl | rfl | rfl | rfl
    all_goals
      clear hh
      simp only [h0, true_and]
      go_enter Tryd.func27, Tryd.ntmps27
      go_wp2_with fail
      go_ret
      exact ⟨rfl, rfl⟩
  · rw [show decide (0 ≤ n ∧ n < ((2 ^ h : Nat) : Int)) = false by simp [h0]]
    have h0' : decide (0 ≤ n) = false := by simp; omega
    go_enter Tryd.func27, Tryd.ntmps27
    go_wp2_with fail
    go_ret
    exact ⟨rfl, rfl⟩

set_option maxHeartbeats 4000000 in
theorem climb_any (nd B : List UInt8) (ix m : Nat) (A : Option Addr) (c N : Nat) (w : World) (hnd : nd.length = 16) (hN : N = B.length) (hB : B.length = 16 * m) (hm : m ≤ 6) (hix : ix < 64) (hr : Rd w w.heap.size A (B8 B)) (hc : N ≤ c) (ht : Tab 1 w) (R : List UInt8) (hR : Hid (R = climbOf ix nd B m)) :
    Calls Tryd.prog 39 #[.agg (B8 nd).toArray, .int .i64 (ix : Int), .slice A N c] w fun e w' => e = .returned (.agg (B8 R).toArray) ∧ Below w.heap.size w w' := by
  have hNa : 16 * m ≤ N := by omega
  have hNb : N ≤ 16 * m := by omega
  have HN0 := Lib.hid (And.intro hN (hN.trans hB))
  have HRd := Lib.hid hr
  have HT := Lib.hid ht
  have HND := Lib.hid hnd
  have HRl := Lib.hid (show R.length = 16 by rw [hR.out]; exact climb_len _ _ _ hnd _)
  have hZ := hZ16
  have KS := Lib.hid (show Keep w (climbOf ix nd B 0) ((w.alloc (.cells (B8 nd).toArray 23)).alloc (.cells Z16.toArray 23)) from ⟨(Blk.new w 23 (B8 nd)).alloc _, Blk.newAt _ _ 23 Z16 (by simp), ((Below.refl _ _).alloc (Nat.le_refl _) _).alloc (by simp) _⟩)
  clear hN hB hr ht hnd
  go_enter Tryd.func39, Tryd.ntmps39
  go_wp2_with fail
  go_loopw [12] (fun s12 wr => ∃ j : Nat, j ≤ m ∧ s12 = .int .i64 (j : Int) ∧ Keep w (climbOf ix nd B j) wr)
    (fun s12 _ => m - (intOf s12).toNat)
  case atStart => exact ⟨0, by omega, rfl, KS.out⟩
  case round =>
  obtain ⟨j, hj, rfl, hkp⟩ := hrel
  clear KS
  obtain ⟨D, hD⟩ : ∃ D, D = climbOf ix nd B j := ⟨_, rfl⟩
  rw [← hD] at hkp
  have HDl := Lib.hid (show D.length = 16 by rw [hD]; exact climb_len _ _ _ HND.out _)
  replace hkp := Lib.hid hkp
  by_cases hlt : j < m
  · have hlt2 : (j : Int) < (N : Int) / 16 := by omega
    obtain ⟨X, hX⟩ : ∃ X, X = dig16 B j := ⟨_, rfl⟩
    obtain ⟨D', hD'⟩ : ∃ D', D' = climbOf ix nd B (j + 1) := ⟨_, rfl⟩
    have HD' := Lib.hid hD'
    have HXl := Lib.hid (show X.length = 16 by rw [hX]; unfold dig16; have := HN0.out; simp; omega)
    have HDl' := Lib.hid (show D'.length = 16 by rw [hD']; exact climb_len _ _ _ HND.out _)
    have HX := Lib.hid (show X = (B.drop (16 * j)).take 16 from hX)
    go_wp2_with fail
    refine (digestAt_any A B c _ w.heap.size (HRd.out.below hkp.out.b) (by have := HN0.out.1; omega) (by have := HN0.out.1; omega) hkp.out.b.size N j HN0.out.1 (by omega) X HX).mono ?_; rintro e w1 ⟨rfl, hb1⟩
    have k1 := Lib.hid (hkp.out.below hb1)
    obtain ⟨w2, hw2⟩ : ∃ W, W = (w1.alloc (.cells Z16.toArray 23)).setRow w1.heap.size (B8 X).toArray := ⟨_, rfl⟩
    have k2 := Lib.hid (show Keep w D w2 by
      rw [hw2]
      have h := k1.out.alloc (.cells Z16.toArray 23)
      have h1 := k1.out.d.lt
      have h2 := k1.out.z.lt
      exact ⟨h.d.setRow (by omega) _, h.z.setRow (by omega) _, belowRow h.b k1.out.b.size _⟩)
    have HLD3 := Lib.hid k2.out.d.at
    have HLD8 := Lib.hid (show Blk w2 w1.heap.size 23 (B8 X) by rw [hw2]; exact (Blk.new w1 23 Z16).row _).at
    have HW2 := Lib.hid hw2
    clear hb1 hw2
    have ha1 := and1 (ix / 2 ^ j) (Nat.lt_of_le_of_lt (Nat.div_le_self _ _) (by omega))
    rw [show ((ix / 2 ^ j : Nat) : Int) = (ix : Int) / 2 ^ j by rw [Int.natCast_ediv, Int.natCast_pow]; rfl] at ha1
    by_cases hp : ix / 2 ^ j % 2 = 0
    · have hpb : (((ix / 2 ^ j % 2 : Nat) : Int) == 0) = true := by rw [beq_iff_eq]; omega
      have HP := Lib.hid hp
      generalize ix / 2 ^ j % 2 = P at ha1 hpb
      clear hp
      have HN := Lib.hid (show D' = nodeOf D X by rw [hD', climbOf, if_pos HP.out, ← hD, ← hX])
      clear hD' hD hX
      go_wp2_with (first
        | (with_reducible refine wpList_store_row rfl 23 (.tmp 8) (.tmp 17) rfl w1.heap.size (B8 X).toArray rfl rfl 23 _ (heap_alloc_new w1 _) (size23' _ HXl.out) (Z16_size _ HXl.out) (one8 _) ?_; rw [← HW2.out])
        | (with_reducible refine wpList_load_at rfl 23 (.tmp 3) rfl ⟨w.heap.size, 0, none⟩ rfl (B8 D) (.array 16 5) HLD3.out Tryd.underlying23 rfl (size23 _ HDl.out) ?_)
        | (with_reducible refine wpList_load_at rfl 23 (.tmp 8) rfl ⟨w1.heap.size, 0, none⟩ rfl (B8 X) (.array 16 5) HLD8.out Tryd.underlying23 rfl (size23 _ HXl.out) ?_))
      refine (join_any D X w2 HDl.out HXl.out (HT.out.below k2.out.b HT.out.1) D' HN).mono ?_; rintro e w3 ⟨rfl, hb3⟩
      have k3 := Lib.hid (k2.out.below hb3)
      have K3 := Lib.hid (show w3.heap[w.heap.size]? = some (.cells (B8 D).toArray 23 (0, 0)) from k3.out.d)
      have X3 := k3.out.row D'
      clear hb3
      go_wp2_with (with_reducible refine wpList_store_row rfl 23 (.tmp 3) (.tmp 25) rfl w.heap.size (B8 D').toArray rfl rfl 23 _ K3.out (size23' _ HDl'.out) (by rw [List.size_toArray, List.size_toArray, B8_len, B8_len, HDl'.out, HDl.out]) (one8 _) ?_)
      go_roundw
      case rel => exact ⟨j + 1, by omega, by go_num, by rw [← HD'.out]; exact X3⟩
      case measure => simp only [intOf]; omega
    · have hpb : (((ix / 2 ^ j % 2 : Nat) : Int) == 0) = false := by rw [beq_eq_false_iff_ne]; omega
      have HP := Lib.hid hp
      generalize ix / 2 ^ j % 2 = P at ha1 hpb
      clear hp
      have HN := Lib.hid (show D' = nodeOf X D by rw [hD', climbOf, if_neg HP.out, ← hD, ← hX])
      clear hD' hD hX
      go_wp2_with (first
        | (with_reducible refine wpList_store_row rfl 23 (.tmp 8) (.tmp 17) rfl w1.heap.size (B8 X).toArray rfl rfl 23 _ (heap_alloc_new w1 _) (size23' _ HXl.out) (Z16_size _ HXl.out) (one8 _) ?_; rw [← HW2.out])
        | (with_reducible refine wpList_load_at rfl 23 (.tmp 3) rfl ⟨w.heap.size, 0, none⟩ rfl (B8 D) (.array 16 5) HLD3.out Tryd.underlying23 rfl (size23 _ HDl.out) ?_)
        | (with_reducible refine wpList_load_at rfl 23 (.tmp 8) rfl ⟨w1.heap.size, 0, none⟩ rfl (B8 X) (.array 16 5) HLD8.out Tryd.underlying23 rfl (size23 _ HXl.out) ?_))
      refine (join_any X D w2 HXl.out HDl.out (HT.out.below k2.out.b HT.out.1) D' HN).mono ?_; rintro e w3 ⟨rfl, hb3⟩
      have k3 := Lib.hid (k2.out.below hb3)
      have K3 := Lib.hid (show w3.heap[w.heap.size]? = some (.cells (B8 D).toArray 23 (0, 0)) from k3.out.d)
      have X3 := k3.out.row D'
      clear hb3
      go_wp2_with (with_reducible refine wpList_store_row rfl 23 (.tmp 3) (.tmp 28) rfl w.heap.size (B8 D').toArray rfl rfl 23 _ K3.out (size23' _ HDl'.out) (by rw [List.size_toArray, List.size_toArray, B8_len, B8_len, HDl'.out, HDl.out]) (one8 _) ?_)
      go_roundw
      case rel => exact ⟨j + 1, by omega, by go_num, by rw [← HD'.out]; exact X3⟩
      case measure => simp only [intOf]; omega
  · obtain rfl : j = m := by omega
    have hlt2 : ¬ (j : Int) < (N : Int) / 16 := by omega
    have HRD := Lib.hid (show D = R by rw [hR.out, hD])
    have HLD := Lib.hid (HRD.out ▸ hkp.out.d : Blk wr w.heap.size 23 (B8 R)).at
    have HZR := Lib.hid (show wr.heap[w.heap.size + 1]? = some (.cells Z16.toArray 23 (0, 0)) from hkp.out.z)
    clear hD
    go_wp2_with (first
      | (with_reducible refine wpList_load_at rfl 23 (.tmp 3) rfl ⟨w.heap.size, 0, none⟩ rfl (B8 R) (.array 16 5) HLD.out Tryd.underlying23 rfl (size23 _ HRl.out) ?_)
      | (with_reducible refine wpList_store_row rfl 23 (.tmp 6) (.tmp 30) rfl (w.heap.size + 1) (B8 R).toArray rfl rfl 23 _ HZR.out (size23' _ HRl.out) (Z16_size _ HRl.out) (one8 _) ?_))
    refine bodyPost_ret (v := .agg (B8 R).toArray) ?_ rfl ⟨rfl, belowRow hkp.out.b (by omega) _⟩
    have hr := run_loadVar_row (P := Tryd.prog) _ (w.heap.size + 1) 23 23 (B8 R).toArray (0, 0) (.array 16 5) (heap_setRow wr (w.heap.size + 1) (B8 R).toArray _ 23 HZR.out) Tryd.underlying23 rfl (size23' _ HRl.out)
    simp [results, Tryd.results39, asAddr, hr]
end Go.Proofs.YtgonidjajmjniaaDoor

namespace Go.Proofs.YtgonidjajmjniaaDoor
open Go.RowKit Wr Sh
set_option linter.unusedVariables false
set_option maxRecDepth 100000

theorem Z16_one : Z16.toArray.all (·.oneCell') = true := one8 (List.replicate 16 0)
theorem Z16_sz : (Tryd.prog.info? 23).map (·.size) = some Z16.toArray.size := by kernel_rfl
theorem Z16_B8 : Z16 = B8 (List.replicate 16 0) := rfl

set_option maxHeartbeats 2000000 in
theorem public_bad (sd : ByteArray) (n : Int) (w : World) (h : (sd.size == 32) = false ∨ (sd.size == 32) = true ∧ decide (0 ≤ n ∧ n ≤ 6) = false) :
    Calls Tryd.prog 12 #[.string sd, .int .i64 n] w fun e w' => e = .returned (.tuple #[.agg Z16.toArray, .int .i64 1]) ∧ Below w.heap.size w w' := by
  have hZ := hZ16
  have HK := Lib.hid (show (w.alloc (.cells Z16.toArray 23)).heap[w.heap.size]? = some (.cells Z16.toArray 23 (0, 0)) from Blk.new w 23 Z16)
  have B1 := Lib.hid ((Below.refl w.heap.size w).alloc (Nat.le_refl _) (.cells Z16.toArray 23))
  have HS := Lib.hid Z16_sz
  have HO := Lib.hid Z16_one
  rcases h with hsz | ⟨hsz, hht⟩
  · go_enter Tryd.func12, Tryd.ntmps12
    go_wp2_with (first
      | (go_at_call 22; refine (isSeed_any sd _).mono ?_; rintro e w' ⟨rfl, rfl⟩; simp only [hsz])
      | (with_reducible refine wpList_store_row rfl 23 (.tmp 4) (.tmp 16) rfl w.heap.size Z16.toArray rfl rfl 23 _ HK.out HS.out rfl HO.out ?_))
    refine bodyPost_ret (v := .tuple #[.agg Z16.toArray, .int .i64 1]) ?_ rfl ⟨rfl, belowRow B1.out (Nat.le_refl _) _⟩
    have hr := run_loadVar_row (P := Tryd.prog) _ w.heap.size 23 23 Z16.toArray (0, 0) (.array 16 5) (heap_setRow _ w.heap.size Z16.toArray _ 23 HK.out) Tryd.underlying23 rfl HS.out
    simp [results, Tryd.results12, asAddr, hr]
  · go_enter Tryd.func12, Tryd.ntmps12
    go_wp2_with (first
      | (go_at_call 22; refine (isSeed_any sd _).mono ?_; rintro e w' ⟨rfl, rfl⟩; simp only [hsz])
      | (go_at_call 23; refine (isHeight_any n _).mono ?_; rintro e w' ⟨rfl, rfl⟩; simp only [hht])
      | (with_reducible refine wpList_store_row rfl 23 (.tmp 4) (.tmp 16) rfl w.heap.size Z16.toArray rfl rfl 23 _ HK.out HS.out rfl HO.out ?_))
    refine bodyPost_ret (v := .tuple #[.agg Z16.toArray, .int .i64 1]) ?_ rfl ⟨rfl, belowRow B1.out (Nat.le_refl _) _⟩
    have hr := run_loadVar_row (P := Tryd.prog) _ w.heap.size 23 23 Z16.toArray (0, 0) (.array 16 5) (heap_setRow _ w.heap.size Z16.toArray _ 23 HK.out) Tryd.underlying23 rfl HS.out
    simp [results, Tryd.results12, asAddr, hr]

set_option maxHeartbeats 2000000 in
theorem public_ok (sd : ByteArray) (h : Nat) (w : World) (h32 : sd.size = 32) (hh : h ≤ 6) (ht : Tab 1 w) (R : List UInt8) (hR : R = node sd.data.toList h 0) :
    Calls Tryd.prog 12 #[.string sd, .int .i64 (h : Int)] w fun e w' => e = .returned (.tuple #[.agg (B8 R).toArray, .int .i64 0]) ∧ Below w.heap.size w w' := by
  have hZ := hZ16
  have HK := Lib.hid (Blk.new w 23 Z16)
  have B1 := Lib.hid ((Below.refl w.heap.size w).alloc (Nat.le_refl _) (.cells Z16.toArray 23))
  have HRl := Lib.hid (show R.length = 16 by rw [hR]; exact node_len _ _ _)
  have HR := Lib.hid hR
  have HT := Lib.hid ht
  have hsz : (sd.size == 32) = true := by rw [beq_iff_eq]; exact h32
  have hht : decide (0 ≤ (h : Int) ∧ (h : Int) ≤ 6) = true := by simp; omega
  have H32 := Lib.hid h32
  clear h32 hR ht
  go_enter Tryd.func12, Tryd.ntmps12
  go_wp2_with (first
    | (go_at_call 22; refine (isSeed_any sd _).mono ?_; rintro e w' ⟨rfl, rfl⟩; simp only [hsz])
    | (go_at_call 23; refine (isHeight_any (h : Int) _).mono ?_; rintro e w' ⟨rfl, rfl⟩; simp only [hht]))
  refine (growth_any sd 0 h _ (by have := H32.out; omega) hh (Nat.two_pow_pos h) (HT.out.below B1.out HT.out.1) R HR.out).mono ?_; rintro e w2 ⟨G, rfl, hG, hGl, hb2⟩
  have B2 := Lib.hid (B1.out.trans (hb2.mono B1.out.size))
  have K2 := Lib.hid (HK.out.below hb2 HK.out.lt)
  obtain ⟨w3, hw3⟩ : ∃ W, W = (w2.alloc (.cells Z16.toArray 23)).setRow w2.heap.size (B8 R).toArray := ⟨_, rfl⟩
  have B3 := Lib.hid (show Below w.heap.size w w3 by rw [hw3]; exact belowRow (B2.out.alloc B2.out.size _) B2.out.size _)
  have K3 := Lib.hid (show w3.heap[w.heap.size]? = some (.cells Z16.toArray 23 (0, 0)) by rw [hw3]; exact (K2.out.alloc _).setRow (by have := K2.out.lt; omega) _)
  have HLD := Lib.hid (show Blk w3 w2.heap.size 23 (B8 R) by rw [hw3]; exact (Blk.new w2 23 Z16).row _).at
  have HW3 := Lib.hid hw3
  clear hb2 hG hGl hw3
  go_wp2_with (first
    | (with_reducible refine wpList_store_row rfl 23 (.tmp 6) (.tmp 21) rfl w2.heap.size (B8 R).toArray rfl rfl 23 _ (heap_alloc_new w2 _) (size23' _ HRl.out) (Z16_size _ HRl.out) (one8 _) ?_; rw [← HW3.out])
    | (with_reducible refine wpList_load_at rfl 23 (.tmp 6) rfl ⟨w2.heap.size, 0, none⟩ rfl (B8 R) (.array 16 5) HLD.out Tryd.underlying23 rfl (size23 _ HRl.out) ?_)
    | (with_reducible refine wpList_store_row rfl 23 (.tmp 4) (.tmp 23) rfl w.heap.size (B8 R).toArray rfl rfl 23 _ K3.out (size23' _ HRl.out) (Z16_size _ HRl.out) (one8 _) ?_))
  refine bodyPost_ret (v := .tuple #[.agg (B8 R).toArray, .int .i64 0]) ?_ rfl ⟨rfl, belowRow B3.out (Nat.le_refl _) _⟩
  have hr := run_loadVar_row (P := Tryd.prog) _ w.heap.size 23 23 (B8 R).toArray (0, 0) (.array 16 5) (heap_setRow w3 w.heap.size (B8 R).toArray _ 23 K3.out) Tryd.underlying23 rfl (size23' _ HRl.out)
  simp [results, Tryd.results12, asAddr, hr]
end Go.Proofs.YtgonidjajmjniaaDoor

