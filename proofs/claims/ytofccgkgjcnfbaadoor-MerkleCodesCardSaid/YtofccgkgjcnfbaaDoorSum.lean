/-
  The contract of Stream.Sum.
  Conditions: at most 2^40 bytes in all; the table of the round constants is as the text lays it.
-/
import Derived.Test.YtofccgkgjcnfbaaDoorZ
import Derived.Test.YtofccgkgjcnfbaaDoorAdd
import Derived.Deep.RegionHeld3
import Derived.Deep.DeepCutAuto
set_option linter.unusedSimpArgs false
namespace Go.Proofs.YtofccgkgjcnfbaaDoor
open Go.RowKit Wr Sh
set_option linter.unusedVariables false
set_option maxRecDepth 100000
theorem exec_load_at {P : Program} (ev : Operand → Value) (o : Oper) (W : World) (ty : TypeId) (x : Operand) (ho : o.op = .load ty x) (ad : Addr) (hx : ev x = .pointer (some ad)) (cs : List Value) (d : TypeDesc)
  (hc : ∀ j v, cs[j]? = some v → W.cell? (ad.add j) = some v) (hu : P.underlying ty = some d) (hd : (match d with | .struct _ | .array _ _ => true | _ => false) = true) (hi : (P.info? ty).map (·.size) = some cs.length) :
  (execOp ev o).run P W = .ok (.value (.agg cs.toArray)) W := by
 unfold execOp
 simp only [ho, hx, Instr.loadAt, Instr.sureAddr, Sem.run_bind, Sem.run_pure, Result.andThen_ok, run_loadVar_at W ad ty cs d hc hu hd hi]
theorem slice_to72 (g u : Nat) (hu' : u ≤ 72) (W : World) : (Instr.sliceAt 164 (.pointer (some ⟨g, 0, none⟩)) none (some (.int .i64 (u : Int))) none).run Tryd.prog W = .ok (.slice (some ⟨g, 0, none⟩) u 72) W := by
 have h9 : Tryd.prog.arrayLen 164 = 72 := by kernel_rfl
 have he : Tryd.prog.elem 164 = 5 := by kernel_rfl
 have hu : Tryd.prog.underlying 164 = some (.array (Tryd.prog.arrayLen 164) (Tryd.prog.elem 164)) := by kernel_rfl
 have h5 : (sizeOf 5).run Tryd.prog W = .ok 1 W := by kernel_rfl
 rw [run_sliceAt_array_h W 164 ⟨g, 0, none⟩ hu .i64 (u : Int) (by omega) (by rw [h9]; omega), he, h5, h9]
 simp [Result.andThen, slicedAt, Addr.add]
def Z72 : List Value := B8 (List.replicate 72 0)
theorem zero59 : ∀ W : World, (zeroValue 164).run Tryd.prog W = .ok (.agg Z72.toArray) W := fun _ => by kernel_rfl
theorem Z72_0 : Z72[0]? = some (.int .u8 0) := rfl
def endc (nz i n : Nat) : List UInt8 := 128 :: (List.replicate nz 0 ++ ((be8 (8 * n)).take i ++ List.replicate (71 - nz - i) 0))
theorem be8_len (n : Nat) : (be8 n).length = 8 := by simp [be8]
theorem endc_len (nz i n : Nat) (h1 : nz ≤ 63) (h2 : i ≤ 8) : (endc nz i n).length = 72 := by
 simp [endc, be8_len]; omega
theorem endc_0 (nz n : Nat) (h1 : nz ≤ 63) : Z72.set 0 (.int .u8 128) = B8 (endc nz 0 n) := by
 have e : endc nz 0 n = 128 :: List.replicate 71 0 := by
  unfold endc
  rw [List.take_zero, List.nil_append, List.replicate_append_replicate]
  congr 2; omega
 rw [e]; rfl
theorem endc_at (nz i n : Nat) (h1 : nz ≤ 63) (h2 : i < 8) : (B8 (endc nz i n))[1 + nz + i]? = some (.int .u8 0) := by
 have hl := be8_len (8 * n)
 unfold B8 endc
 rw [List.getElem?_map, show 1 + nz + i = (nz + i) + 1 by omega, List.getElem?_cons_succ, List.getElem?_append_right (by simp), List.length_replicate, Nat.add_sub_cancel_left,
  List.getElem?_append_right (by simp; omega)]
 simp [List.getElem?_replicate, hl]
 omega
theorem endc_set (nz i n : Nat) (h1 : nz ≤ 63) (h2 : i < 8) : (B8 (endc nz i n)).set (1 + nz + i) (.int .u8 ((UInt8.ofNat ((8 * n) >>> (56 - 8 * i))).toNat : Int)) = B8 (endc nz (i + 1) n) := by
 have hl := be8_len (8 * n)
 have hg : (be8 (8 * n))[i]'(by omega) = UInt8.ofNat ((8 * n) >>> (56 - 8 * i)) := by simp [be8]
 have ht : (be8 (8 * n)).take (i + 1) = (be8 (8 * n)).take i ++ [UInt8.ofNat ((8 * n) >>> (56 - 8 * i))] := by
  rw [List.take_succ_eq_append_getElem (by omega), hg]
 unfold B8 endc
 rw [ht, show 1 + nz + i = (nz + i) + 1 by omega, List.map_cons, List.set_cons_succ, List.map_append, List.set_append_right _ _ (by simp), List.map_append, List.set_append_right _ _ (by simp; omega)]
 have e : 71 - nz - i = (71 - nz - (i + 1)) + 1 := by omega
 rw [e, List.replicate_succ]
 simp only [List.length_map, List.length_replicate, List.length_take, hl]
 rw [show nz + i - nz - min i 8 = 0 by omega]
 simp
theorem endc_end (nz n : Nat) (h : nz ≤ 63) (m : List UInt8) (hn : n = m.length) (hz : nz = noughts n) : (endc nz 8 n).take (1 + nz + 8) = tail m.length := by
 have hl := be8_len (8 * n)
 unfold endc tail
 rw [show 1 + nz + 8 = (nz + 8) + 1 by omega, List.take_succ_cons, ← hn, hz, List.take_of_length_le (l := be8 (8 * n)) (by omega), ← List.append_assoc, List.take_append_of_le_length (by simp; omega), List.take_of_length_le (by simp; omega)]
theorem shift_n (n i x : Nat) (hx : x = (8 * n) >>> (56 - 8 * i)) : (n : Int) * 8 / 2 ^ (56 - 8 * i) % 256 = ((UInt8.ofNat x).toNat : Int) := by
 rw [UInt8.toNat_ofNat', hx, Nat.shiftRight_eq_div_pow, Int.natCast_emod, Int.natCast_ediv, Int.natCast_pow, Nat.mul_comm 8 n, Int.natCast_mul]
 rfl
theorem rem_n (n : Nat) (h : n ≤ 1099511627776) : (IntKind.u64.wrap (55 - (n : Int))).tmod 64 = (noughts n : Int) := by
 have e : IntKind.u64.wrap (55 - (n : Int)) = (55 - (n : Int)) % 18446744073709551616 := by simp [IntKind.wrap, IntKind.bits, IntKind.signed]
 rw [e, Int.tmod_eq_emod_of_nonneg (by omega)]
 unfold noughts
 omega
theorem size24 (d : List UInt8) (h : d.length = 32) : (Tryd.prog.info? 145).map (·.size) = some (B8 d).length := by
 rw [B8_len, h]; kernel_rfl
theorem size24' (d : List UInt8) (h : d.length = 32) : (Tryd.prog.info? 145).map (·.size) = some (B8 d).toArray.size := size24 d h
def sumc (v : S8) (j : Nat) : List UInt8 := (v.list.take j).flatMap bytes4 ++ List.replicate (32 - 4 * j) 0
def b8 (x : W) : Value := .int .u8 ((lo8 x).toNat : Int)
theorem sum_at (v : S8) (j m : Nat) (h : j < 8) (hm : m = 4 * j) : ∃ x : W,
  (∀ w : World, (Instr.index 148 (.agg (U32 v.list).toArray) (.int .i64 (j : Int))).run Tryd.prog w = .ok (.int .u32 (val x)) w) ∧
  (B8 (sumc v j))[m]? = some (.int .u8 0) ∧ (B8 (sumc v j))[m + 1]? = some (.int .u8 0) ∧ (B8 (sumc v j))[m + 2]? = some (.int .u8 0) ∧ (B8 (sumc v j))[m + 3]? = some (.int .u8 0) ∧
  ((((B8 (sumc v j)).set m (b8 (x >>> 24))).set (m + 1) (b8 (x >>> 16))).set (m + 2) (b8 (x >>> 8))).set (m + 3) (b8 x) = B8 (sumc v (j + 1)) := by
 subst hm
 have hj : j = 0 ∨ j = 1 ∨ j = 2 ∨ j = 3 ∨ j = 4 ∨ j = 5 ∨ j = 6 ∨ j = 7 := by omega
 rcases hj with rfl | rfl | rfl | rfl | rfl | rfl | rfl | rfl
 ·
  exact ⟨v.a, fun W => by kernel_rfl, rfl, rfl, rfl, rfl, rfl⟩
 ·
  exact ⟨v.b, fun W => by kernel_rfl, rfl, rfl, rfl, rfl, rfl⟩
 ·
  exact ⟨v.c, fun W => by kernel_rfl, rfl, rfl, rfl, rfl, rfl⟩
 ·
  exact ⟨v.d, fun W => by kernel_rfl, rfl, rfl, rfl, rfl, rfl⟩
 ·
  exact ⟨v.e, fun W => by kernel_rfl, rfl, rfl, rfl, rfl, rfl⟩
 ·
  exact ⟨v.f, fun W => by kernel_rfl, rfl, rfl, rfl, rfl, rfl⟩
 ·
  exact ⟨v.g, fun W => by kernel_rfl, rfl, rfl, rfl, rfl, rfl⟩
 ·
  exact ⟨v.h, fun W => by kernel_rfl, rfl, rfl, rfl, rfl, rfl⟩
theorem byte_val (x : W) : val x % (256 : Int) = ((lo8 x).toNat : Int) := by
 unfold lo8; rw [UInt8.toNat_ofNat']; unfold val; omega
theorem byte_wrap (x : W) : IntKind.u8.wrap (val x) = ((lo8 x).toNat : Int) := by
 rw [IntKind.wrap_u8', byte_val]
attribute [local go_sem] shr_8 shr_16 shr_24 byte_val byte_wrap
set_option maxRecDepth 100000 in
set_option maxHeartbeats 4000000 in
theorem ssum_go (m rest : List UInt8) (v : S8) (n : Nat) (w : World) (hp : Part m rest (n % 64) v) (hn : n = m.length) (hsz : n ≤ 549755813888) (ht : Tab 1 w)
  (R : List UInt8) (hR : Hid (R = sha m)) :
  Calls Tryd.prog 102 #[.agg (SC v rest n).toArray] w fun e w' => e = .returned (.agg (B8 R).toArray) ∧ Below w.heap.size w w' := by
 have c72 : (SC v rest n)[72]? = some (.int .u64 (n : Int)) := SC_72 v rest n hp.hl
 have HP := Lh hp
 have HN := Lh hn
 have HT := Lh ht
 clear hp hn ht
 have z59 := zero59
 have z0 := Z72_0
 obtain ⟨nz, hnz⟩ : ∃ nz, nz = noughts n := ⟨_, rfl⟩
 have hrem := rem_n n (by omega)
 rw [← hnz] at hrem
 have hnz63 : nz ≤ 63 := by rw [hnz]; unfold noughts; omega
 have HNZ := Lh hnz
 clear hnz
 have he0 := Lh (endc_0 nz n hnz63)
 go_enter Tryd.func102, Tryd.ntmps102
 go_wp2
 rw [he0.out]
 generalize hW : World.alloc _ (Obj.cells (B8 (endc nz 0 n)).toArray 164) = W1
 have f1 : Blk W1 w.heap.size 151 (SC v rest n) := by rw [← hW]; exact ((Blk.new w 151 (SC v rest n)).alloc _).alloc _
 have f2 : Blk W1 (w.heap.size + 1) 145 (B8 (List.replicate 32 0)) := by rw [← hW]; exact (Blk.newAt (w.alloc (.cells (SC v rest n).toArray 151)) (w.heap.size + 1) 145 (B8 (List.replicate 32 0)) (by simp)).alloc _
 have f3 : Blk W1 (w.heap.size + 1 + 1) 164 (B8 (endc nz 0 n)) := by rw [← hW]; exact Blk.newAt _ _ 164 _ (by simp)
 have hbel : Below w.heap.size w W1 := by rw [← hW]; exact (((Below.refl _ _).alloc (Nat.le_refl _) _).alloc (by simp) _).alloc (by simp; omega) _
 have HB := Lh hbel
 clear hW hbel z59 z0 he0 hrem
 go_loopw [19] (fun s19 wr => ∃ i : Nat, i ≤ 8 ∧ s19 = .int .i64 i ∧ Blk wr w.heap.size 151 (SC v rest n) ∧ Blk wr (w.heap.size + 1) 145 (B8 (List.replicate 32 0)) ∧ Blk wr (w.heap.size + 1 + 1) 164 (B8 (endc nz i n)) ∧ Hid (Below w.heap.size w wr))
  (fun s19 _ => 8 - (intOf s19).toNat)
 case atStart => exact ⟨0, by omega, rfl, f1, f2, f3, HB⟩
 case round =>
 clear f1 f2 f3 HB
 obtain ⟨i, hi, rfl, f1, f2, f3, HB⟩ := hrel
 by_cases hi8 : i < 8
 ·
  obtain ⟨x, hx⟩ : ∃ x, x = (8 * n) >>> (56 - 8 * i) := ⟨_, rfl⟩
  have hu8 := shift_n n i x hx
  have cn : wr.cell? ⟨w.heap.size, 72, none⟩ = some (.int .u64 (n : Int)) := (f1.cell 72).trans c72
  have ce : wr.cell? ⟨w.heap.size + 1 + 1, 1 + nz + i, none⟩ = some (.int .u8 0) := (f3.cell _).trans (endc_at nz i n hnz63 hi8)
  have fe := f3.frozen (1 + nz + i)
  have t1 : (1 + (nz : Int) + (i : Int)).toNat = 1 + nz + i := by omega
  have HX := Lh hx
  clear hx
  go_wp2
  go_roundw
  case rel =>
   refine ⟨i + 1, by omega, by go_num, f1.far (show w.heap.size ≠ w.heap.size + 1 + 1 by omega) _, f2.far (show w.heap.size + 1 ≠ w.heap.size + 1 + 1 by omega) _, ?_, Lh (HB.out.setCell (show w.heap.size ≤ w.heap.size + 1 + 1 by omega) _)⟩
   have := f3.put (1 + nz + i) (.int .u8 ((UInt8.ofNat x).toNat : Int))
   rw [HX.out, endc_set nz i n hnz63 hi8] at this
   rw [HX.out]
   exact this
  case measure => simp only [intOf]; omega
 ·
  have hi9 : i = 8 := by omega
  subst hi9
  obtain ⟨u, hu⟩ : ∃ u, u = 1 + nz + 8 := ⟨_, rfl⟩
  have hsl := slice_to72 (w.heap.size + 1 + 1) u (by omega)
  have hsum : IntKind.i64.wrap (1 + (nz : Int) + 8) = (u : Int) := by rw [IntWalk.i64_in _ (by omega)]; omega
  have Hload : ∀ W, Below wr.heap.size wr W → Hid (∀ j x, (SC v rest n)[j]? = some x → W.cell? ((⟨w.heap.size, 0, none⟩ : Addr).add j) = some x) := fun W hW => Lh ((f1.below hW f1.lt).at)
  have hS0 : Below wr.heap.size wr wr.drew := (Below.refl _ _).drew
  have HS73 := Lh (SC_len v rest n HP.out.hl)
  have hend := endc_end nz n hnz63 m HN.out HNZ.out
  have hul : (tail m.length).length = u := by rw [← hend, List.length_take, endc_len nz 8 n hnz63 (by omega)]; omega
  have Hcall : ∀ W, Below wr.heap.size wr W → Calls Tryd.prog 99 #[.agg (SC v rest n).toArray, .slice (some ⟨w.heap.size + 1 + 1, 0, none⟩) u 72] W fun e w' => ∃ rest' v', e = .returned (.agg (SC v' rest' (n + u)).toArray) ∧ Part (pad m) rest' ((n + u) % 64) v' ∧ Below W.heap.size W w' := by
   intro W hW
   have hrd : Rd W W.heap.size (some ⟨w.heap.size + 1 + 1, 0, none⟩) (B8 (tail m.length)) := by
    intro _
    have b3 := f3.below hW f3.lt
    refine ⟨_, 0, rfl, b3.lt, fun j x hj => ?_⟩
    rw [Nat.zero_add, b3.cell]
    have hjl := (List.getElem?_eq_some_iff.1 hj).1
    rw [B8_len, hul] at hjl
    rw [← hend] at hj
    unfold B8 at hj ⊢
    rw [List.getElem?_map, List.getElem?_take, if_pos (by omega)] at hj
    rw [List.getElem?_map]; exact hj
   have := extB_go m (tail m.length) rest v n (n % 64) (some ⟨w.heap.size + 1 + 1, 0, none⟩) 72 W HP.out HN.out hrd (by rw [hul]; omega) (by rw [hul]; omega) (HT.out.below (HB.out.trans (hW.mono (Nat.le_of_lt f1.lt))) HT.out.1) (n + u) (by rw [hul]) (pad m) (Lh rfl)
   rw [hul] at this
   exact this
  have HC := Lh Hcall
  clear hu hend hul Hcall
  go_wp2_with fail
  go_upto_region 10 with (fail)
  go_cut [7] (fun s7 wx => ∃ g v' rest', s7 = .pointer (some ⟨g, 0, none⟩) ∧ Blk wx g 151 (SC v' rest' (n + u)) ∧ Part (pad m) rest' ((n + u) % 64) v' ∧ Below wr.heap.size wr wx ∧ wr.heap.size ≤ g)
  case first =>
   refine wp_region_held (S := fun W => Below wr.heap.size wr W) (by kernel_rfl) ?_
   change wpAnyH _ _ _ _ _ _ _ _ (World.drew wr)
   refine tkH 0 (⟨some 35, .load 151 (.tmp 1), 151, "hash.go:60", #[], none⟩) (.agg (SC v rest n).toArray) hS0 (fun W hW => exec_load_at _ _ W 151 (.tmp 1) rfl ⟨w.heap.size, 0, none⟩ rfl (SC v rest n) _ (Hload W hW).out Tryd.underlying151 rfl (size34 _ HS73.out)) ?_
   dsimp only [Act.put]
   simp only [List.setIfInBounds_toArray, List.set_cons_zero, List.set_cons_succ]
   refine tkH 1 (⟨some 36, .move (.tmp 4), 3, "hash.go:60", #[], none⟩) (.int .i64 (1 + (nz : Int))) hS0 (fun W hW => ?y1) ?_
   case y1 => go_simp
   dsimp only [Act.put]
   simp only [List.setIfInBounds_toArray, List.set_cons_zero, List.set_cons_succ]
   refine tkH 2 (⟨some 37, .binOp .add 3 (.tmp 36) (.const (.int .i64 8)) 3, 3, "hash.go:60", #[{ on := 1, ground := Ground.data }], none⟩) (.int .i64 (u : Int)) hS0 (fun W hW => ?y2) ?_
   case y2 => go_simp
   dsimp only [Act.put]
   simp only [List.setIfInBounds_toArray, List.set_cons_zero, List.set_cons_succ]
   refine tkH 3 (⟨some 38, .slice 164 (.tmp 5) none (some (.tmp 37)) none, 39, "hash.go:60", #[{ on := 2, ground := Ground.data }], none⟩) (.slice (some ⟨w.heap.size + 1 + 1, 0, none⟩) u 72) hS0 (fun W hW => ?y3) ?_
   case y3 => go_simp
   dsimp only [Act.put]
   simp only [List.setIfInBounds_toArray, List.set_cons_zero, List.set_cons_succ]
   have z34 := zero34
   refine wpAnyH_ready (rs := [4, 5]) (by kernel_rfl) (by simp) ?_
   refine AllReadyH.cons (o := ⟨some 39, .call { callee := .value (.func 99), args := #[.tmp 35, .tmp 38], argTypes := #[151, 39] }, 151, "hash.go:60", #[{ on := 0, ground := Ground.data }, { on := 3, ground := Ground.data }], none⟩) rfl (fun K hK => ?_) (AllReadyH.cons (o := ⟨some 7, .alloc 151, 0, "hash.go:60", #[], none⟩) rfl (fun K hK => ?_) AllReadyH.nil)
   ·
    rw [if_pos (by rfl)]
    go_simp
    refine (HC.out _ hS0).mono ?_
    rintro e w1 ⟨rest1, v1, rfl, hp1, hb1⟩
    have HP1 := Lh hp1
    have hS1 : Below wr.heap.size wr w1 := hS0.trans hb1
    clear hp1
    go_wp2_with fail
    refine hK.out _ _ hS1 (fun _ => ?_)
    clear hK K
    try simp only [zp, zn, z1, z2, z3]
    refine wpAnyH_ready (rs := [5]) (by kernel_rfl) (by simp) ?_
    refine AllReadyH.cons (o := ⟨some 7, .alloc 151, 0, "hash.go:60", #[], none⟩) rfl (fun K hK => ?_) AllReadyH.nil
    rw [if_pos (by rfl)]
    go_simp
    have hS2 : Below wr.heap.size wr (w1.alloc (.cells ZS.toArray 151)) := hS1.alloc hS1.size _
    refine hK.out _ _ hS2 (fun _ => ?_)
    clear hK K
    try simp only [zp, zn, z1, z2, z3]
    refine wpAnyH_ready (rs := [6]) (by kernel_rfl) (by simp) ?_
    refine AllReadyH.cons (o := ⟨none, .store 151 (.tmp 7) (.tmp 39), 0, "hash.go:60", #[{ on := 5, ground := Ground.data }, { on := 4, ground := Ground.data }, { on := 4, ground := Ground.chain }, { on := 0, ground := Ground.phase }, { on := 1, ground := Ground.phase }, { on := 2, ground := Ground.phase }, { on := 3, ground := Ground.phase }, { on := 4, ground := Ground.phase }, { on := 5, ground := Ground.phase }], none⟩) rfl (fun K hK => ?_) AllReadyH.nil
    rw [if_pos (by rfl)]
    refine wp_store_row 151 (.tmp 7) (.tmp 39) rfl w1.heap.size (SC v1 rest1 (n + u)).toArray rfl rfl 151 _ (heap_alloc_new w1 _) (size34' _ (SC_len v1 rest1 _ HP1.out.hl)) (by rw [List.size_toArray, List.size_toArray, SC_len v1 rest1 _ HP1.out.hl]; rfl) (SC_one _ _ _) ?_
    have hS3 := belowRow hS2 hS1.size (SC v1 rest1 (n + u)).toArray
    refine hK.out _ _ hS3 (fun _ => ?_)
    clear hK K
    refine wpAnyH_done (by kernel_rfl) ?_ _
    try simp only [zp, zn, z1, z2, z3]
    go_wp2_with fail
    go_meet
    exact ⟨w1.heap.size, v1, rest1, rfl, Blk.row (Blk.new w1 151 ZS) _, HP1.out, hS3, hS1.size⟩
   ·
    rw [if_pos (by rfl)]
    go_simp
    have hS2 : Below wr.heap.size wr (wr.drew.alloc (.cells ZS.toArray 151)) := hS0.alloc hS0.size _
    have hbk : Blk (wr.drew.alloc (.cells ZS.toArray 151)) wr.heap.size 151 ZS := Blk.new wr.drew 151 ZS
    refine hK.out _ _ hS2 (fun _ => ?_)
    clear hK K
    try simp only [zp, zn, z1, z2, z3]
    refine wpAnyH_ready (rs := [4]) (by kernel_rfl) (by simp) ?_
    refine AllReadyH.cons (o := ⟨some 39, .call { callee := .value (.func 99), args := #[.tmp 35, .tmp 38], argTypes := #[151, 39] }, 151, "hash.go:60", #[{ on := 0, ground := Ground.data }, { on := 3, ground := Ground.data }], none⟩) rfl (fun K hK => ?_) AllReadyH.nil
    rw [if_pos (by rfl)]
    go_simp
    refine (HC.out _ hS2).mono ?_
    rintro e w1 ⟨rest1, v1, rfl, hp1, hb1⟩
    have HP1 := Lh hp1
    have hS1 : Below wr.heap.size wr w1 := hS2.trans (hb1.mono hS2.size)
    have hbk1 : Blk w1 wr.heap.size 151 ZS := hbk.below hb1 hbk.lt
    clear hp1
    go_wp2_with fail
    refine hK.out _ _ hS1 (fun _ => ?_)
    clear hK K
    try simp only [zp, zn, z1, z2, z3]
    refine wpAnyH_ready (rs := [6]) (by kernel_rfl) (by simp) ?_
    refine AllReadyH.cons (o := ⟨none, .store 151 (.tmp 7) (.tmp 39), 0, "hash.go:60", #[{ on := 5, ground := Ground.data }, { on := 4, ground := Ground.data }, { on := 4, ground := Ground.chain }, { on := 0, ground := Ground.phase }, { on := 1, ground := Ground.phase }, { on := 2, ground := Ground.phase }, { on := 3, ground := Ground.phase }, { on := 4, ground := Ground.phase }, { on := 5, ground := Ground.phase }], none⟩) rfl (fun K hK => ?_) AllReadyH.nil
    rw [if_pos (by rfl)]
    refine wp_store_row 151 (.tmp 7) (.tmp 39) rfl wr.heap.size (SC v1 rest1 (n + u)).toArray rfl rfl 151 _ hbk1 (size34' _ (SC_len v1 rest1 _ HP1.out.hl)) (by rw [List.size_toArray, List.size_toArray, SC_len v1 rest1 _ HP1.out.hl]; rfl) (SC_one _ _ _) ?_
    have hS3 := belowRow hS1 (Nat.le_refl _) (SC v1 rest1 (n + u)).toArray
    refine hK.out _ _ hS3 (fun _ => ?_)
    clear hK K
    refine wpAnyH_done (by kernel_rfl) ?_ _
    try simp only [zp, zn, z1, z2, z3]
    go_wp2_with fail
    go_meet
    exact ⟨wr.heap.size, v1, rest1, rfl, hbk1.row _, HP1.out, hS3, Nat.le_refl _⟩
  case rest =>
   obtain ⟨g, v', rest', rfl, hg, hp', hbw, hge⟩ := hcut
   have HP' := Lh hp'
   have f2' := f2.below hbw f2.lt
   have HB2 : Hid (Below w.heap.size w wc) := Lh (HB.out.trans (hbw.mono (Nat.le_of_lt f1.lt)))
   have hgw : w.heap.size + 1 + 1 < g := Nat.lt_of_lt_of_le f3.lt hge
   clear f1 f2 f3 HB hbw hge hp' HC Hload hS0 HS73 hsl hsum
   have HL30 := Lh (fun O : Obj => (fun j x (hx : (U32 v'.list)[j]? = some x) => ((hg.alloc O).at j x (SC_words v' rest' _ j x hx)) : ∀ j x, (U32 v'.list)[j]? = some x → (wc.alloc O).cell? ((⟨g, 0, none⟩ : Addr).add j) = some x))
   have HV8 : Hid (v'.list.length = 8) := Lh rfl
   go_wp2_with (first
    | (with_reducible refine wpList_load_at rfl 148 (.tmp 40) rfl ⟨g, 0, none⟩ rfl (U32 v'.list) (.array 8 147) (HL30.out _) Tryd.underlying148 rfl (size30 _ HV8.out) ?_))
   generalize hW2 : wc.alloc _ = W2
   have e2 : Blk W2 (w.heap.size + 1) 145 (B8 (List.replicate 32 0)) := by rw [← hW2]; exact f2'.alloc _
   have e3 : Blk W2 wc.heap.size 145 (B8 (sumc v' 0)) := by rw [← hW2]; exact Blk.new wc 145 (B8 (List.replicate 32 0))
   have hM : w.heap.size + 1 + 1 < wc.heap.size := Nat.lt_trans hgw hg.lt
   have HB3 : Hid (Below w.heap.size w W2) := by rw [← hW2]; exact Lh (HB2.out.alloc (by omega) _)
   obtain ⟨M, hM0⟩ : ∃ M, M = wc.heap.size := ⟨_, rfl⟩
   rw [← hM0] at e3 hM ⊢
   clear hW2 hM0 f2' HB2 hg hgw HL30 HV8
   go_loopw [42] (fun s42 wr => ∃ j : Nat, j ≤ 8 ∧ s42 = .int .i64 j ∧ Blk wr (w.heap.size + 1) 145 (B8 (List.replicate 32 0)) ∧ Blk wr M 145 (B8 (sumc v' j)) ∧ Hid (Below w.heap.size w wr))
    (fun s42 _ => 8 - (intOf s42).toNat)
   case atStart => exact ⟨0, by omega, rfl, e2, e3, HB3⟩
   case round =>
   clear e2 e3 HB3
   obtain ⟨j, hj, rfl, e2, e3, HB3⟩ := hrel
   by_cases hj8 : j < 8
   ·
    obtain ⟨m4, hm4⟩ : ∃ m4, m4 = 4 * j := ⟨_, rfl⟩
    obtain ⟨x, hix, d0, d1, d2, d3, hset⟩ := sum_at v' j m4 hj8 hm4
    have c0 : wr.cell? ⟨M, m4, none⟩ = some (.int .u8 0) := (e3.cell _).trans d0
    have c1 : wr.cell? ⟨M, m4 + 1, none⟩ = some (.int .u8 0) := (e3.cell _).trans d1
    have c2 : wr.cell? ⟨M, m4 + 2, none⟩ = some (.int .u8 0) := (e3.cell _).trans d2
    have c3 : wr.cell? ⟨M, m4 + 3, none⟩ = some (.int .u8 0) := (e3.cell _).trans d3
    have x0 := e3.frozen m4
    have x1 := e3.frozen (m4 + 1)
    have x2 := e3.frozen (m4 + 2)
    have x3 := e3.frozen (m4 + 3)
    have q0 : IntKind.i64.wrap (4 * (j : Int)) = (m4 : Int) := by rw [IntWalk.i64_in _ (by omega)]; omega
    have q0' : 4 * (j : Int) = (m4 : Int) := by omega
    have g0 : (m4 : Int) < 32 := by omega
    have q1 : IntKind.i64.wrap ((m4 : Int) + 1) = (m4 : Int) + 1 := IntWalk.i64_in _ (by omega)
    have t1 : ((m4 : Int) + 1).toNat = m4 + 1 := by omega
    have g1 : (m4 : Int) + 1 < 32 := by omega
    have p1 : 0 ≤ (m4 : Int) + 1 := by omega
    have q2 : IntKind.i64.wrap ((m4 : Int) + 2) = (m4 : Int) + 2 := IntWalk.i64_in _ (by omega)
    have t2 : ((m4 : Int) + 2).toNat = m4 + 2 := by omega
    have g2 : (m4 : Int) + 2 < 32 := by omega
    have p2 : 0 ≤ (m4 : Int) + 2 := by omega
    have q3 : IntKind.i64.wrap ((m4 : Int) + 3) = (m4 : Int) + 3 := IntWalk.i64_in _ (by omega)
    have t3 : ((m4 : Int) + 3).toNat = m4 + 3 := by omega
    have g3 : (m4 : Int) + 3 < 32 := by omega
    have p3 : 0 ≤ (m4 : Int) + 3 := by omega
    have Hset := Lh hset
    have Hm4 := Lh hm4
    clear hset hm4 d0 d1 d2 d3
    go_wp2
    go_roundw
    case rel =>
     have hw4 : ∀ W : World, W = (((wr.setCell ⟨M, m4, none⟩ (b8 (x >>> 24))).setCell ⟨M, m4 + 1, none⟩ (b8 (x >>> 16))).setCell ⟨M, m4 + 2, none⟩ (b8 (x >>> 8))).setCell ⟨M, m4 + 3, none⟩ (b8 x) → Blk W (w.heap.size + 1) 145 (B8 (List.replicate 32 0)) ∧ Blk W M 145 (B8 (sumc v' (j + 1))) ∧ Hid (Below w.heap.size w W) := by
      rintro W rfl
      have hne : w.heap.size + 1 ≠ M := by omega
      have hle : w.heap.size ≤ M := by omega
      refine ⟨(((e2.far hne _).far hne _).far hne _).far hne _, ?_, Lh ((((HB3.out.setCell hle _).setCell hle _).setCell hle _).setCell hle _)⟩
      have := (((e3.put m4 (b8 (x >>> 24))).put (m4 + 1) (b8 (x >>> 16))).put (m4 + 2) (b8 (x >>> 8))).put (m4 + 3) (b8 x)
      rw [Hset.out] at this
      exact this
     obtain ⟨k1, k2, k3⟩ := hw4 _ rfl
     exact ⟨j + 1, by omega, by go_num, k1, k2, k3⟩
    case measure => simp only [intOf]; omega
   ·
    have hend : sumc v' j = R := by
     have h8 : j = 8 := by omega
     rw [hR.out, sha, ← HP'.out.hv]
     subst h8
     simp [sumc, S8.bytes, S8.list]
    have hRl : R.length = 32 := by rw [← hend, show j = 8 by omega]; rfl
    have HRL := Lh hRl
    rw [hend] at e3
    have E3 := Lh e3.at
    have E2 := Lh (show wr.heap[w.heap.size + 1]? = some (.cells (B8 (List.replicate 32 0)).toArray 145 (0, 0)) from e2)
    have HSZ := Lh (show (B8 (List.replicate 32 0)).toArray.size = (B8 R).toArray.size by rw [List.size_toArray, List.size_toArray, B8_len, B8_len, hRl]; rfl)
    have hbel := HB3.out
    clear e2 e3 hend hRl HB3 HP'
    go_wp2_with (first
     | (with_reducible refine wpList_load_at rfl 145 (.tmp 8) rfl ⟨M, 0, none⟩ rfl (B8 R) (.array 32 5) E3.out Tryd.underlying145 rfl (size24 _ HRL.out) ?_)
     | (with_reducible refine wpList_store_row rfl 145 (.tmp 2) (.tmp 73) rfl (w.heap.size + 1) (B8 R).toArray rfl rfl 145 _ E2.out (size24' _ HRL.out) HSZ.out (one8 _) ?_))
    refine bodyPost_ret (v := .agg (B8 R).toArray) ?_ rfl ⟨rfl, belowRow hbel (by omega) _⟩
    have hr := run_loadVar_row (P := Tryd.prog) _ (w.heap.size + 1) 145 145 (B8 R).toArray (0, 0) (.array 32 5) (heap_setRow wr (w.heap.size + 1) (B8 R).toArray _ 145 E2.out) Tryd.underlying145 rfl (size24' _ HRL.out)
    simp [results, asAddr, hr, Act.put]
end Go.Proofs.YtofccgkgjcnfbaaDoor
