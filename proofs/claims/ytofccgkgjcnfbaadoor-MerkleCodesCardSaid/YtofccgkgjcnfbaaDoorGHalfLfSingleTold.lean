/-
  Contracts and words of several parts of the program (Half, Lf, Single, Told), one after the other.
  Conditions: those that each says.
-/
import Derived.Test.YtofccgkgjcnfbaaDoorProg
import Derived.Test.YtofccgkgjcnfbaaDoorTree
import Derived.Shelf.Small.Bits
import Derived.WalkKit
import Derived.Outline
import Derived.Lib.Hide
import Derived.Test.YtofccgkgjcnfbaaDoorOf
import Derived.Deep.RegionHeld
import Derived.Test.YtofccgkgjcnfbaaDoorZ
import Derived.Shelf.Abstract
set_option linter.unusedSimpArgs false
namespace Go.Proofs.YtofccgkgjcnfbaaDoor
open Go.RowKit Wr
set_option linter.unusedVariables false
set_option maxRecDepth 100000
def renB : Go.Shelf.Ren := ⟨fun | 125 => 114 | 128 => 117 | 129 => 118 | n => n, fun | 46 => 141 | 51 => 147 | 53 => 139 | n => n, fun n => n⟩
theorem laysB : Lays.n125 Tryd.prog renB := by
 constructor
 all_goals (intros; kernel_rfl)
theorem len_any (x : Nat) (w : World) (h : x ≤ 1073741824) : Calls Tryd.prog 114 #[.int .u64 (x : Int)] w fun e w' => e = .returned (.int .i64 (Lib.bitLen x : Nat)) ∧ w = w' :=
 (Any.bits_Len laysB (x : Int) w (by omega) (by omega)).mono fun e w' ⟨h1, h2⟩ => ⟨by rw [h1, Int.toNat_natCast], h2.symm⟩
theorem bitLenAux_log (f : Nat) : ∀ x, 0 < x → x < 2 ^ f → Lib.bitLenAux f x = Nat.log2 x + 1 := by
 induction f with
 | zero => intro x h0 h1; simp at h1; omega
 | succ f ih =>
  intro x h0 h1
  unfold Lib.bitLenAux
  rw [if_neg (by omega)]
  by_cases h : x / 2 = 0
  ·
   rw [h]
   have : x = 1 := by omega
   subst this
   have : Lib.bitLenAux f 0 = 0 := by cases f <;> simp [Lib.bitLenAux]
   rw [this]; decide
  ·
   rw [ih (x / 2) (by omega) (by rw [Nat.pow_succ] at h1; omega), Nat.log2_def x, if_pos (by omega)]
   omega
theorem bitLen_log (x : Nat) (h0 : 0 < x) (h1 : x ≤ 1073741824) : Lib.bitLen x = Nat.log2 x + 1 := bitLenAux_log 64 x h0 (Nat.lt_of_le_of_lt h1 (by decide))
set_option maxHeartbeats 400000 in
theorem power_any (n : Nat) (w : World) (h1 : 1 < n) (h2 : n ≤ 1073741824) : Calls Tryd.prog 104 #[.int .i64 (n : Int)] w fun e w' => e = .returned (.int .i64 (half n : Nat)) ∧ w = w' := by
 obtain ⟨k, hk⟩ : ∃ k, k = Nat.log2 (n - 1) := ⟨_, rfl⟩
 have hb : Lib.bitLen (n - 1) = k + 1 := by rw [hk]; exact bitLen_log _ (by omega) (by omega)
 have hk30 : k ≤ 30 := by rw [hk]; have := (Nat.log2_lt (n := n - 1) (k := 31) (by omega)).2 (by omega); omega
 have HB := Lib.hid hb
 have e : half n = 2 ^ k := by rw [hk]; rfl
 rw [e]
 have hc : (((n - 1 : Nat)) : Int) = (n : Int) - 1 := by omega
 have HC := Lib.hid hc
 clear hk hb e hc
 go_enter Tryd.func104, Tryd.ntmps104
 go_wp2_with (go_at_call 114; rw [← HC.out]; refine (len_any (n - 1) _ (by omega)).mono ?_; rintro e w' ⟨rfl, rfl⟩; rw [HB.out])
 go_ret
 have hp : (2 : Nat) ^ k ≤ 2 ^ 30 := Nat.pow_le_pow_right (by decide) hk30
 have hw : wrap64 ((2 : Int) ^ k) = ((2 ^ k : Nat) : Int) := by
  rw [show ((2 : Int) ^ k) = ((2 ^ k : Nat) : Int) by simp]
  have : (2 : Nat) ^ 30 = 1073741824 := by decide
  generalize (2 : Nat) ^ k = q at hp
  simp only [wrap64]; omega
 exact ⟨by rw [hw]; rfl, rfl⟩
end Go.Proofs.YtofccgkgjcnfbaaDoor
namespace Go.Proofs.YtofccgkgjcnfbaaDoor
open Go.RowKit Wr Sh
set_option linter.unusedVariables false
set_option maxRecDepth 100000
def dof (t : UInt8) (l : List ByteArray) : List UInt8 := (sha (inp t l)).take 16
theorem dof_len (t : UInt8) (l : List ByteArray) : (dof t l).length = 16 := by unfold dof; rw [List.length_take, sha_len]; rfl
def bs (l : List UInt8) : ByteArray := ⟨l.toArray⟩
theorem bs_size (l : List UInt8) : (bs l).size = l.length := by simp [bs, ByteArray.size]
theorem bs_list (l : List UInt8) : (bs l).data.toList = l := by simp [bs]
def node (l r : List UInt8) : List UInt8 := dof 4 [bs l, bs r]
def lf (x : Lf) : List UInt8 := dof 3 [x.1, x.2]
def Z16 : List Value := List.replicate 16 (.int .u8 0)
def LC (L : List Lf) : List Value := L.flatMap fun x => [.string x.1, .string x.2]
theorem LC_len (L : List Lf) : (LC L).length = 2 * L.length := by
 induction L with
 | nil => rfl
 | cons x L ih => unfold LC at *; rw [List.flatMap_cons, List.length_append, ih]; simp; omega
theorem LC_cons (x : Lf) (L : List Lf) : LC (x :: L) = .string x.1 :: .string x.2 :: LC L := rfl
theorem LC_append (A B : List Lf) : LC (A ++ B) = LC A ++ LC B := by unfold LC; rw [List.flatMap_append]
theorem LC_at : ∀ (L : List Lf) (i : Nat) (h : i < L.length), (LC L)[i * 2]? = some (.string L[i].1) ∧ (LC L)[i * 2 + 1]? = some (.string L[i].2)
 | x :: L, 0, _ => ⟨rfl, rfl⟩
 | x :: L, i + 1, h => by
  have := LC_at L i (by simpa using h)
  rw [LC_cons, show (i + 1) * 2 = i * 2 + 1 + 1 by omega]
  exact this
theorem LC_one (L : List Lf) : ∀ u ∈ LC L, u.oneCell' = true := by
 intro u hu
 unfold LC at hu
 rw [List.mem_flatMap] at hu
 obtain ⟨x, _, hx⟩ := hu
 simp at hx
 rcases hx with rfl | rfl <;> rfl
theorem inp_cons (t : UInt8) (s : ByteArray) (l : List ByteArray) : (inp t (s :: l)).length ≤ (inp t l).length + s.size + 9 := by
 unfold inp
 rw [List.map_cons, List.flatten_cons, List.length_cons, List.length_cons, List.length_append]
 unfold encStr
 rw [List.length_append, size_l]
 have := (enc_le (s.data.toList.length : Int)).2
 rw [size_l] at this
 omega
theorem inp_nil (t : UInt8) : (inp t []).length = 1 := rfl
theorem of_new (tag : Int) (t8 : UInt8) (htag : IntKind.u8.wrap tag = (t8.toNat : Int)) (l : List ByteArray) (n : Nat) (hn : n = l.length) (hs : (inp t8 l).length ≤ 274877906944) (W0 : World) (g : Nat) (hg : g = W0.heap.size) (W1 : World) (hW1 : W1 = W0.alloc (.cells (St l).toArray 9)) (ht : Tab 1 W1) (D : List UInt8) (hD : Hid (D = dof t8 l)) :
  Calls Tryd.prog 76 #[.int .i64 tag, .slice (some ⟨g, 0, none⟩) n n] W1 fun e w' => e = .returned (.agg (B8 D).toArray) ∧ Below W1.heap.size W1 w' := by
 subst hg hn hW1
 rw [hD.out]
 exact of_go tag (some ⟨W0.heap.size, 0, none⟩) l l.length _ (rd_new W0 (St l) 9) (Nat.le_refl _) t8 htag hs ht _ (Lib.hid rfl)
theorem inp_2 (t : UInt8) (a b : ByteArray) (ha : a.size ≤ 1073741824) (hb : b.size ≤ 1073741824) : (inp t [a, b]).length ≤ 274877906944 := by
 have h1 := inp_cons t a [b]
 have h2 := inp_cons t b []
 have h3 := inp_nil t
 omega
theorem conv_at (g o c : Nat) (T : List UInt8) (W : World) (hc : ∀ (j : Nat) u, (B8 T)[j]? = some u → W.cell? ⟨g, o + j, none⟩ = some u) :
  (convert 39 9 (.slice (some ⟨g, o, none⟩) T.length c)).run Tryd.prog W = .ok (.string ⟨T.toArray⟩) W :=
 run_convert_bytes_back (P := Tryd.prog) W 39 9 5 ⟨g, o, none⟩ c T Tryd.underlying39 Tryd.underlying5 Tryd.underlying9 (fun j hj => by rw [Addr.add_lit]; exact hc j _ (B8_get _ _ hj))
theorem size29 (l : List UInt8) (h : l.length = 16) : (Tryd.prog.info? 29).map (·.size) = some (B8 l).length := by rw [B8_len, h]; kernel_rfl
theorem size29' (l : List UInt8) (h : l.length = 16) : (Tryd.prog.info? 29).map (·.size) = some (B8 l).toArray.size := by rw [List.size_toArray, B8_len, h]; kernel_rfl
theorem Z16_size (l : List UInt8) (h : l.length = 16) : Z16.toArray.size = (B8 l).toArray.size := by rw [List.size_toArray, List.size_toArray, B8_len, h]; rfl
theorem hZ16 : (#[.int .u8 0, .int .u8 0, .int .u8 0, .int .u8 0, .int .u8 0, .int .u8 0, .int .u8 0, .int .u8 0, .int .u8 0, .int .u8 0, .int .u8 0, .int .u8 0, .int .u8 0, .int .u8 0, .int .u8 0, .int .u8 0] : Array Value) = Z16.toArray := by rfl
end Go.Proofs.YtofccgkgjcnfbaaDoor
namespace Go.Proofs.YtofccgkgjcnfbaaDoor
open Go.RowKit Wr Sh
set_option linter.unusedVariables false
set_option maxRecDepth 100000
def Sees (gv gl o a n c : Nat) (k v : ByteArray) (W : World) : Prop :=
 W.cell? ⟨gv, 0, none⟩ = some (.slice (some ⟨gl, o, none⟩) n c) ∧ W.cell? ⟨gl, o + a * 2, none⟩ = some (.string k) ∧ W.cell? ⟨gl, o + a * 2 + 1, none⟩ = some (.string v)
theorem Sees.keep {gv gl o a n c G : Nat} {k v : ByteArray} {w w' : World} (h : Sees gv gl o a n c k v w) (hG : gv ≠ G ∧ gl ≠ G) (hk : ∀ b, b ≠ G → w'.heap[b]? = w.heap[b]?) : Sees gv gl o a n c k v w' :=
 ⟨(World.cell?_of_block (a := ⟨gv, 0, none⟩) (hk gv hG.1)).trans h.1, (World.cell?_of_block (a := ⟨gl, _, none⟩) (hk gl hG.2)).trans h.2.1, (World.cell?_of_block (a := ⟨gl, _, none⟩) (hk gl hG.2)).trans h.2.2⟩
theorem Sees.below {gv gl o a n c : Nat} {k v : ByteArray} {w w' : World} (h : Sees gv gl o a n c k v w) (hb : Below w.heap.size w w') : Sees gv gl o a n c k v w' :=
 ⟨(hb.cell (World.block_lt_of_cell? _ _ h.1)).trans h.1, (hb.cell (World.block_lt_of_cell? _ _ h.2.1)).trans h.2.1, (hb.cell (World.block_lt_of_cell? _ _ h.2.2)).trans h.2.2⟩
theorem Sees.lt {gv gl o a n c : Nat} {k v : ByteArray} {w : World} (h : Sees gv gl o a n c k v w) : gv < w.heap.size ∧ gl < w.heap.size :=
 ⟨World.block_lt_of_cell? _ _ h.1, World.block_lt_of_cell? _ _ h.2.1⟩
set_option maxHeartbeats 1000000 in
theorem single_more (a b gv : Nat) (w : World) (ha : a ≤ 1073741824) (hb : b ≤ 1073741824) (hab : (1 : Int) < (b : Int) - (a : Int)) :
  Calls Tryd.prog 78 #[.int .i64 (a : Int), .int .i64 (b : Int), .pointer (some ⟨gv, 0, none⟩)] w fun e w' => e = .returned (.tuple #[.agg Z16.toArray, .bool false]) ∧ Below w.heap.size w w' := by
 have hZ := hZ16
 have K1 := Lh (heap_alloc_new w (.cells Z16.toArray 29))
 have HB := Lh ((Below.refl w.heap.size w).alloc (Nat.le_refl _) (.cells Z16.toArray 29))
 have ZO := Lh (show Z16.toArray.all (·.oneCell') = true from one8 (List.replicate 16 0))
 have ZS := Lh (show (Tryd.prog.info? 29).map (·.size) = some Z16.toArray.size from size29' (List.replicate 16 0) rfl)
 go_enter Tryd.func78, Tryd.ntmps78
 go_wp2_with (with_reducible refine wpList_store_row rfl 29 (.tmp 5) (.tmp 11) rfl w.heap.size Z16.toArray rfl rfl 29 _ K1.out ZS.out rfl ZO.out ?_)
 refine bodyPost_ret (v := .tuple #[.agg Z16.toArray, .bool false]) ?_ rfl ⟨rfl, belowRow HB.out (Nat.le_refl _) _⟩
 have hr := run_loadVar_row (P := Tryd.prog) _ w.heap.size 29 29 Z16.toArray (0, 0) (.array 16 5) (heap_setRow _ w.heap.size Z16.toArray _ 29 K1.out) Tryd.underlying29 rfl (size29' (List.replicate 16 0) rfl)
 simp [results, Tryd.results78, asAddr, hr]
set_option maxHeartbeats 1000000 in
theorem single_one (a b n c gv gl o : Nat) (k v : ByteArray) (w : World) (hn : n ≤ 1073741824) (han : a < n) (hab : ¬ (1 : Int) < (b : Int) - (a : Int)) (hb : b ≤ 1073741824) (hk : k.size ≤ 1073741824) (hv : v.size ≤ 1073741824)
  (hs : Sees gv gl o a n c k v w) (ht : Tab 1 w) (R : List UInt8) (HR : Hid (R = dof 3 [k, v])) :
  Calls Tryd.prog 78 #[.int .i64 (a : Int), .int .i64 (b : Int), .pointer (some ⟨gv, 0, none⟩)] w fun e w' => e = .returned (.tuple #[.agg (B8 R).toArray, .bool true]) ∧ Below w.heap.size w w' := by
 have HT := Lh ht
 have HI := Lh (inp_2 3 k v hk hv)
 have HRl := Lh (show R.length = 16 by rw [HR.out]; exact dof_len _ _)
 have hZ := hZ16
 have HL := Lh (show (gv ≠ w.heap.size ∧ gl ≠ w.heap.size) ∧ True from ⟨⟨Nat.ne_of_lt hs.lt.1, Nat.ne_of_lt hs.lt.2⟩, trivial⟩)
 obtain ⟨W1, hW1⟩ : ∃ W, W = w.alloc (.cells Z16.toArray 29) := ⟨_, rfl⟩
 have K1 := Lh (show Blk W1 w.heap.size 29 Z16 by rw [hW1]; exact Blk.new w 29 Z16)
 have B1 := Lh (show Below w.heap.size w W1 by rw [hW1]; exact (Below.refl _ _).alloc (Nat.le_refl _) _)
 have HS := Lh (hs.below B1.out)
 have HW := Lh hW1
 clear hs hW1 ht hk hv
 go_enter Tryd.func78, Tryd.ntmps78
 go_wp2_with fail
 rw [← HW.out]
 refine wp_region_held (S := fun W => Sees gv gl o a n c k v W) (by kernel_rfl) ?_
 change wpAnyH _ _ _ _ _ _ _ _ (World.drew W1)
 have hS0 : Sees gv gl o a n c k v (World.drew W1) := HS.out
 have BD := B1.out.drew
 have KD : Blk (World.drew W1) w.heap.size 29 Z16 := K1.out
 generalize World.drew W1 = Wd at hS0 BD KD ⊢
 replace BD := Lh BD
 replace KD := Lh KD
 refine tkH 0 ({ dst := some 12, op := Op.load 33 (Operand.tmp 2), type := 33, pos := "merkle.go:173", after := #[], guard := none }) (.slice (some ⟨gl, o, none⟩) n c) hS0 (fun W hW => by have hcl := hW.1; go_simp) ?_
 try simp only [zp, zn, z1, z2, z3]
 refine tkH 1 ({ dst := some 13, op := Op.move (Operand.tmp 0), type := 3, pos := "merkle.go:173", after := #[], guard := none }) (.int .i64 (a : Int)) hS0 (fun W hW => ?y2) ?_
 case y2 => go_simp
 try simp only [zp, zn, z1, z2, z3]
 refine tkH 2 ({ dst := some 14, op := Op.indexAddr 33 (Operand.tmp 12) (Operand.tmp 13), type := 0, pos := "merkle.go:173", after := #[dD 0, dD 1], guard := none }) (.pointer (some ⟨gl, o + a * 2, none⟩)) hS0 (fun W hW => ?y3) ?_
 case y3 => go_simp
 try simp only [zp, zn, z1, z2, z3]
 refine tkH 3 ({ dst := some 15, op := Op.fieldAddr 41 (Operand.tmp 14) 0, type := 0, pos := "merkle.go:173", after := #[dD 2], guard := none }) (.pointer (some ⟨gl, o + a * 2, none⟩)) hS0 (fun W hW => ?y4) ?_
 case y4 => go_simp
 try simp only [zp, zn, z1, z2, z3]
 refine tkH 4 ({ dst := some 16, op := Op.load 9 (Operand.tmp 15), type := 9, pos := "merkle.go:173", after := #[dD 3], guard := none }) (.string k) hS0 (fun W hW => by have hcl := hW.2.1; go_simp) ?_
 try simp only [zp, zn, z1, z2, z3]
 refine tkH 5 ({ dst := some 17, op := Op.load 33 (Operand.tmp 2), type := 33, pos := "merkle.go:173", after := #[], guard := none }) (.slice (some ⟨gl, o, none⟩) n c) hS0 (fun W hW => by have hcl := hW.1; go_simp) ?_
 try simp only [zp, zn, z1, z2, z3]
 refine tkH 6 ({ dst := some 18, op := Op.move (Operand.tmp 0), type := 3, pos := "merkle.go:173", after := #[], guard := none }) (.int .i64 (a : Int)) hS0 (fun W hW => ?y7) ?_
 case y7 => go_simp
 try simp only [zp, zn, z1, z2, z3]
 refine tkH 7 ({ dst := some 19, op := Op.indexAddr 33 (Operand.tmp 17) (Operand.tmp 18), type := 0, pos := "merkle.go:173", after := #[dD 5, dD 6], guard := none }) (.pointer (some ⟨gl, o + a * 2, none⟩)) hS0 (fun W hW => ?y8) ?_
 case y8 => go_simp
 try simp only [zp, zn, z1, z2, z3]
 refine tkH 8 ({ dst := some 20, op := Op.fieldAddr 41 (Operand.tmp 19) 1, type := 0, pos := "merkle.go:173", after := #[dD 7], guard := none }) (.pointer (some ⟨gl, o + a * 2 + 1, none⟩)) hS0 (fun W hW => ?y9) ?_
 case y9 => go_simp
 try simp only [zp, zn, z1, z2, z3]
 refine tkH 9 ({ dst := some 21, op := Op.load 9 (Operand.tmp 20), type := 9, pos := "merkle.go:173", after := #[dD 8], guard := none }) (.string v) hS0 (fun W hW => by have hcl := hW.2.2; go_simp) ?_
 try simp only [zp, zn, z1, z2, z3]
 refine wpAnyH_ready (rs := [10]) (by kernel_rfl) (by simp) ?_
 refine AllReadyH.cons (o := { dst := some 22, op := Op.buildSlice 47 2 #[(0, Operand.tmp 16), (1, Operand.tmp 21)], type := 47, pos := "merkle.go:173", after := #[dD 4, dD 9], guard := none }) rfl (fun K hK => ?_) AllReadyH.nil
 rw [if_pos (by rfl)]
 go_simp
 have HB2 := Lh ((Below.refl Wd.heap.size Wd).alloc (Nat.le_refl _) (.cells #[.string k, .string v] 9))
 have hS2 := hS0.below HB2.out
 have B2 := Lh (BD.out.trans (HB2.out.mono BD.out.size))
 have K2 := Lh (KD.out.below HB2.out KD.out.lt)
 refine hK.out _ _ hS2 (fun _ => ?_)
 clear hK K
 try simp only [zp, zn, z1, z2, z3]
 refine wpAnyH_ready (rs := [11]) (by kernel_rfl) (by simp) ?_
 refine AllReadyH.cons (o := { dst := some 23, op := Op.call { callee := Callee.value (Operand.func 76), args := #[Operand.const (Value.int IntKind.i64 3), Operand.tmp 22], argTypes := #[3, 47] }, type := 29, pos := "merkle.go:173", after := #[dD 10], guard := none }) rfl (fun K hK => ?_) AllReadyH.nil
 rw [if_pos (by rfl)]
 go_simp
 refine (of_new 3 3 (by rfl) [k, v] 2 rfl HI.out Wd _ rfl _ rfl (HT.out.below B2.out HT.out.1) R HR).mono ?_; rintro e w5 ⟨rfl, hb5⟩
 have hS5 := hS2.below hb5
 have B5 := Lh (B2.out.trans (hb5.mono B2.out.size))
 have K5 : w5.heap[w.heap.size]? = some (.cells Z16.toArray 29 (0, 0)) := K2.out.below hb5 K2.out.lt
 clear hb5
 go_wp2_with fail
 refine hK.out _ _ hS5 (fun _ => ?_)
 clear hK K
 try simp only [zp, zn, z1, z2, z3]
 refine wpAnyH_ready (rs := [12]) (by kernel_rfl) (by simp) ?_
 refine AllReadyH.cons (o := { dst := none, op := Op.store 29 (Operand.tmp 5) (Operand.tmp 23), type := 0, pos := "merkle.go:173", after := #[dD 11, dC 11, dP 0, dP 1, dP 2, dP 3, dP 4, dP 5, dP 6, dP 7, dP 8, dP 9, dP 10, dP 11], guard := none }) rfl (fun K hK => ?_) AllReadyH.nil
 rw [if_pos (by rfl)]
 refine wp_store_row 29 (.tmp 5) (.tmp 23) rfl w.heap.size (B8 R).toArray rfl rfl 29 _ K5 (size29' _ HRl.out) (Z16_size _ HRl.out) (one8 _) ?_
 have hS6 := hS5.keep (w' := w5.setRow w.heap.size (B8 R).toArray) (HL.out.1) (fun k hk => heap_setRow_other _ _ _ _ hk)
 refine hK.out _ _ hS6 (fun _ => ?_)
 clear hK K
 try simp only [zp, zn, z1, z2, z3]
 refine wpAnyH_ready (rs := [13]) (by kernel_rfl) (by simp) ?_
 refine AllReadyH.cons (o := { dst := some 6, op := Op.assign (Operand.const (Value.bool true)), type := 4, pos := "merkle.go:173", after := #[dC 12, dP 0, dP 1, dP 2, dP 3, dP 4, dP 5, dP 6, dP 7, dP 8, dP 9, dP 10, dP 11, dP 12], guard := none }) rfl (fun K hK => ?_) AllReadyH.nil
 rw [if_pos (by rfl)]
 go_simp
 refine hK.out _ _ hS6 (fun _ => ?_)
 clear hK K
 try simp only [zp, zn, z1, z2, z3]
 refine wpAnyH_done (by kernel_rfl) ?_ _
 try simp only [zp, zn, z1, z2, z3]
 go_wp2_with fail
 refine bodyPost_ret (v := .tuple #[.agg (B8 R).toArray, .bool true]) ?_ rfl ⟨rfl, belowRow B5.out (Nat.le_refl _) _⟩
 have hr := run_loadVar_row (P := Tryd.prog) _ w.heap.size 29 29 (B8 R).toArray (0, 0) (.array 16 5) (heap_setRow w5 w.heap.size (B8 R).toArray _ 29 K5) Tryd.underlying29 rfl (size29' _ HRl.out)
 simp [results, Tryd.results78, asAddr, hr]
end Go.Proofs.YtofccgkgjcnfbaaDoor
namespace Go.Proofs.YtofccgkgjcnfbaaDoor
open Go.RowKit Wr Sh
set_option linter.unusedVariables false
set_option maxRecDepth 100000
structure Fr (O O' : Nat → Prop) (w w' : World) : Prop where
 os : w'.os = w.os
 tape : w'.tape = w.tape
 output : w'.output = w.output
 size : w.heap.size ≤ w'.heap.size
 keep : ∀ k, k < w.heap.size → ¬ O k → w'.heap[k]? = w.heap[k]?
 own : ∀ k, O' k → O k ∨ w.heap.size ≤ k
section
variable {O O1 O2 : Nat → Prop} {a b c : World}
theorem Fr.refl (O : Nat → Prop) (w : World) : Fr O O w w := ⟨rfl, rfl, rfl, Nat.le_refl _, fun _ _ _ => rfl, fun _ h => .inl h⟩
theorem Fr.trans (h : Fr O O1 a b) (k : Fr O1 O2 b c) : Fr O O2 a c :=
 ⟨k.os.trans h.os, k.tape.trans h.tape, k.output.trans h.output, Nat.le_trans h.size k.size,
  fun i hi ho => (k.keep i (Nat.lt_of_lt_of_le hi h.size) (fun h1 => by rcases h.own i h1 with h2 | h2; exact ho h2; omega)).trans (h.keep i hi ho),
  fun i hi => by
   rcases k.own i hi with h1 | h1
   ·
    exact h.own i h1
   ·
    have := h.size; right; omega⟩
theorem Fr.below (h : Fr O O1 a b) (k : Below b.heap.size b c) : Fr O O1 a c := h.trans ⟨k.os, k.tape, k.output, k.size, fun i hi _ => k.block i hi, fun _ h => .inl h⟩
theorem Fr.alloc (h : Fr O O1 a b) (o : Obj) : Fr O O1 a (b.alloc o) := h.below ((Below.refl _ _).alloc (Nat.le_refl _) _)
theorem Fr.drew (h : Fr O O1 a b) : Fr O O1 a b.drew := h.below (Below.refl _ _).drew
theorem Fr.row (h : Fr O O1 a b) {g : Nat} (hg : a.heap.size ≤ g) (cs : Array Value) : Fr O O1 a (b.setRow g cs) :=
 ⟨h.os, h.tape, h.output, by simpa using h.size, fun k hk ho => (heap_setRow_other _ _ _ _ (by omega)).trans (h.keep k hk ho), h.own⟩
theorem Fr.toBelow {O' : Nat → Prop} (h : Fr (fun _ => False) O' a b) : Below a.heap.size a b := ⟨h.os, h.tape, h.output, h.size, fun k hk => h.keep k hk id⟩
theorem Fr.cell (h : Fr O O1 a b) {p : Addr} {v : Value} (hp : a.cell? p = some v) (ho : ¬ O p.block) : b.cell? p = some v :=
 (World.cell?_of_block (h.keep p.block (World.block_lt_of_cell? _ _ hp) ho)).trans hp
theorem Fr.blk (h : Fr O O1 a b) {g : Nat} {t : TypeId} {cs : List Value} (hb : Blk a g t cs) (ho : ¬ O g) : Blk b g t cs := (h.keep g hb.lt ho).trans hb
end
structure Told {σ : Type} (K : Nat) (caps : Array Value) (G : σ → Nat → Nat → (List UInt8 × Bool) × σ) (N B : Nat) (Inv : σ → (Nat → Prop) → World → Prop) (P : σ → Nat → Prop) : Prop where
 enters : ∀ args w, (callFunc K args).run Tryd.prog w = .ok (.enter K args) w
 call : ∀ s O W (a b : Nat), Inv s O W → P s a → a < b → b ≤ N → Calls Tryd.prog K (#[.int .i64 (a : Int), .int .i64 (b : Int)] ++ caps) W fun e W' =>
  e = .returned (.tuple #[.agg (B8 (G s a b).1.1).toArray, .bool (G s a b).1.2]) ∧ ∃ O', Inv (G s a b).2 O' W' ∧ Fr O O' W W'
 next : ∀ s a b, P s a → a < b → (G s a b).1.2 = true → P (G s a b).2 b
 same : ∀ s a b, P s a → a < b → (G s a b).1.2 = false → P (G s a b).2 a
 one : ∀ s a b, b - a ≤ 1 → (G s a b).1.2 = true
 len : ∀ s a b, (G s a b).1.1.length = 16
 stay : ∀ s O W W', Inv s O W → W.heap.size ≤ W'.heap.size → (∀ k, k < W.heap.size → (k < B ∨ O k) → W'.heap[k]? = W.heap[k]?) → Inv s O W'
 lt : ∀ s O W, Inv s O W → B ≤ W.heap.size ∧ ∀ k, O k → k < W.heap.size
 tab : ∀ s O W, Inv s O W → Tab 1 W
section
variable {σ : Type} {K : Nat} {caps : Array Value} {G : σ → Nat → Nat → (List UInt8 × Bool) × σ} {N B : Nat} {Inv : σ → (Nat → Prop) → World → Prop} {P : σ → Nat → Prop}
structure Now (Inv : σ → (Nat → Prop) → World → Prop) (s : σ) (O0 O : Nat → Prop) (w W : World) : Prop where
 inv : Inv s O W
 fr : Fr O0 O w W
variable {s : σ} {O0 O O1 : Nat → Prop} {w W W' : World}
theorem Now.below (T : Told K caps G N B Inv P) (h : Now Inv s O0 O w W) (hb : Below W.heap.size W W') : Now Inv s O0 O w W' :=
 ⟨T.stay _ _ _ _ h.inv hb.size (fun k hk _ => hb.block k hk), h.fr.below hb⟩
theorem Now.alloc (T : Told K caps G N B Inv P) (h : Now Inv s O0 O w W) (o : Obj) : Now Inv s O0 O w (W.alloc o) := h.below T ((Below.refl _ _).alloc (Nat.le_refl _) _)
theorem Now.drew (T : Told K caps G N B Inv P) (h : Now Inv s O0 O w W) : Now Inv s O0 O w W.drew := h.below T (Below.refl _ _).drew
theorem Now.row (T : Told K caps G N B Inv P) (h : Now Inv s O0 O w W) {g : Nat} (hg : w.heap.size ≤ g) (hB : B ≤ g) (ho : ¬ O g) (cs : Array Value) : Now Inv s O0 O w (W.setRow g cs) :=
 ⟨T.stay _ _ _ _ h.inv (by simp) (fun k hk hko => heap_setRow_other _ _ _ _ (by rintro rfl; rcases hko with h1 | h1; omega; exact ho h1)), h.fr.row hg _⟩
theorem Now.step {s' : σ} (h : Now Inv s O0 O w W) (hi : Inv s' O1 W') (hf : Fr O O1 W W') : Now Inv s' O0 O1 w W' := ⟨hi, h.fr.trans hf⟩
structure Box (O : Nat → Prop) (W : World) (g : Nat) (cs : List Value) : Prop where
 blk : Blk W g 29 cs
 out : ¬ O g
theorem Box.below {g : Nat} {cs : List Value} (h : Box O W g cs) (hb : Below W.heap.size W W') : Box O W' g cs := ⟨h.blk.below hb h.blk.lt, h.out⟩
theorem Box.alloc {g : Nat} {cs : List Value} (h : Box O W g cs) (o : Obj) : Box O (W.alloc o) g cs := ⟨h.blk.alloc _, h.out⟩
theorem Box.drew {g : Nat} {cs : List Value} (h : Box O W g cs) : Box O W.drew g cs := ⟨h.blk.drew, h.out⟩
theorem Box.step {g : Nat} {cs : List Value} (h : Box O W g cs) (hf : Fr O O1 W W') : Box O1 W' g cs :=
 ⟨hf.blk h.blk h.out, fun h1 => by rcases hf.own g h1 with h2 | h2; exact h.out h2; have := h.blk.lt; omega⟩
theorem Box.new (T : Told K caps G N B Inv P) (h : Now Inv s O0 O w W) (cs : List Value) : Box O (W.alloc (.cells cs.toArray 29)) W.heap.size cs :=
 ⟨Blk.new _ _ _, fun h1 => by have := (T.lt _ _ _ h.inv).2 _ h1; omega⟩
theorem Box.row {g g' : Nat} {cs : List Value} (h : Box O W g cs) (hg : g ≠ g') (c : Array Value) : Box O (W.setRow g' c) g cs := ⟨h.blk.setRow hg _, h.out⟩
theorem Box.put {g : Nat} {cs : List Value} (h : Box O W g cs) (c : List Value) : Box O (W.setRow g c.toArray) g c := ⟨h.blk.row _, h.out⟩
def S5 (Inv : σ → (Nat → Prop) → World → Prop) (B : Nat) (O0 : Nat → Prop) (w : World) (s : σ) (bl br : Option Nat) (W : World) : Prop :=
 ∃ O, Now Inv s O0 O w W ∧ Box O W w.heap.size Z16 ∧ (∀ g, bl = some g → Box O W g Z16 ∧ w.heap.size < g ∧ B ≤ g) ∧ (∀ g, br = some g → Box O W g Z16 ∧ w.heap.size < g ∧ B ≤ g) ∧ ∀ g, bl = some g → br ≠ some g
def E5 (Inv : σ → (Nat → Prop) → World → Prop) (O0 : Nat → Prop) (w : World) (s : σ) (D1 D2 : List UInt8) (gl gq : Nat) (W : World) : Prop :=
 ∃ O, Now Inv s O0 O w W ∧ Box O W w.heap.size Z16 ∧ Box O W gl (B8 D1) ∧ Box O W gq (B8 D2) ∧ gl ≠ w.heap.size ∧ gq ≠ w.heap.size
variable {bl br : Option Nat}
theorem S5.drew (T : Told K caps G N B Inv P) (h : S5 Inv B O0 w s bl br W) : S5 Inv B O0 w s bl br W.drew := by
 obtain ⟨O, h1, h2, h3, h4, h5⟩ := h
 exact ⟨O, h1.drew T, h2.drew, fun g hg => ⟨(h3 g hg).1.drew, (h3 g hg).2⟩, fun g hg => ⟨(h4 g hg).1.drew, (h4 g hg).2⟩, h5⟩
theorem S5.size (h : S5 Inv B O0 w s bl br W) (hz : B ≤ w.heap.size) : w.heap.size < W.heap.size ∧ B ≤ W.heap.size := by
 obtain ⟨O, h1, h2, _⟩ := h
 have := h2.blk.lt; omega
theorem S5.left (T : Told K caps G N B Inv P) (hz : B ≤ w.heap.size) (h : S5 Inv B O0 w s none br W) : S5 Inv B O0 w s (some W.heap.size) br (W.alloc (.cells Z16.toArray 29)) := by
 have hs := h.size hz
 obtain ⟨O, h1, h2, h3, h4, h5⟩ := h
 refine ⟨O, h1.alloc T _, h2.alloc _, fun g hg => ?_, fun g hg => ⟨(h4 g hg).1.alloc _, (h4 g hg).2⟩, fun g hg hg2 => ?_⟩
 ·
  injection hg with hg; subst hg; exact ⟨Box.new T h1 Z16, hs⟩
 ·
  injection hg with hg; subst hg; exact absurd (h4 _ hg2).1.blk.lt (Nat.lt_irrefl _)
theorem S5.right (T : Told K caps G N B Inv P) (hz : B ≤ w.heap.size) (h : S5 Inv B O0 w s bl none W) : S5 Inv B O0 w s bl (some W.heap.size) (W.alloc (.cells Z16.toArray 29)) := by
 have hs := h.size hz
 obtain ⟨O, h1, h2, h3, h4, h5⟩ := h
 refine ⟨O, h1.alloc T _, h2.alloc _, fun g hg => ⟨(h3 g hg).1.alloc _, (h3 g hg).2⟩, fun g hg => ?_, fun g hg hg2 => ?_⟩
 ·
  injection hg with hg; subst hg; exact ⟨Box.new T h1 Z16, hs⟩
 ·
  injection hg2 with hg2; subst hg2; exact absurd (h3 _ hg).1.blk.lt (Nat.lt_irrefl _)
theorem Fr.off {O O1 : Nat → Prop} {a b : World} (h : Fr O O1 a b) {g : Nat} (ho : ¬ O g) (hg : g < a.heap.size) : ¬ O1 g := fun h1 => by
 rcases h.own g h1 with h2 | h2
 ·
  exact ho h2
 ·
  omega
theorem S5.call (h : S5 Inv B O0 w s bl br W) {p : Addr} {v : Value} {q : Addr} {u : Value} (hp : w.cell? p = some v) (hpo : ¬ O0 p.block) (hq : w.cell? q = some u) (hqo : ¬ O0 q.block) :
  ∃ O, Inv s O W ∧ (W.cell? p = some v ∧ ¬ O p.block ∧ W.cell? q = some u ∧ ¬ O q.block) ∧ ∀ s' O' W', Inv s' O' W' → Fr O O' W W' → S5 Inv B O0 w s' bl br W' := by
 obtain ⟨O, h1, h2, h3, h4, h5⟩ := h
 exact ⟨O, h1.inv, ⟨h1.fr.cell hp hpo, h1.fr.off hpo (World.block_lt_of_cell? _ _ hp), h1.fr.cell hq hqo, h1.fr.off hqo (World.block_lt_of_cell? _ _ hq)⟩,
  fun s' O' W' hi hf => ⟨O', h1.step hi hf, h2.step hf, fun g hg => ⟨(h3 g hg).1.step hf, (h3 g hg).2⟩, fun g hg => ⟨(h4 g hg).1.step hf, (h4 g hg).2⟩, h5⟩⟩
theorem S5.cell (h : S5 Inv B O0 w s bl br W) {p : Addr} {v : Value} (hp : w.cell? p = some v) (hpo : ¬ O0 p.block) : W.cell? p = some v := by
 obtain ⟨O, h1, _⟩ := h; exact h1.fr.cell hp hpo
theorem S5.rows {gl gq : Nat} (h : S5 Inv B O0 w s (some gl) (some gq) W) (c : Array Value) : W.heap[gl]? = some (.cells Z16.toArray 29 (0, 0)) ∧ (W.setRow gl c).heap[gq]? = some (.cells Z16.toArray 29 (0, 0)) := by
 obtain ⟨O, h1, h2, h3, h4, h5⟩ := h
 refine ⟨(h3 gl rfl).1.blk, ?_⟩
 rw [heap_setRow_other _ _ _ _ (fun e => h5 gl rfl (by rw [e]))]
 exact (h4 gq rfl).1.blk
theorem S5.fill (T : Told K caps G N B Inv P) {gl gq : Nat} (h : S5 Inv B O0 w s (some gl) (some gq) W) (D1 D2 : List UInt8) : E5 Inv O0 w s D1 D2 gl gq ((W.setRow gl (B8 D1).toArray).setRow gq (B8 D2).toArray) := by
 obtain ⟨O, h1, h2, h3, h4, h5⟩ := h
 obtain ⟨l1, l2, l3⟩ := h3 gl rfl
 obtain ⟨q1, q2, q3⟩ := h4 gq rfl
 have hne : gl ≠ gq := fun e => h5 gl rfl (by rw [e])
 exact ⟨O, (h1.row T (Nat.le_of_lt l2) l3 l1.out _).row T (Nat.le_of_lt q2) q3 q1.out _, (h2.row (by omega) _).row (by omega) _, (l1.put _).row hne _, (q1.row hne.symm _).put _, by omega, by omega⟩
theorem S5.first (T : Told K caps G N B Inv P) (h : Inv s O0 w) {W1 : World} (hW : W1 = w.alloc (.cells Z16.toArray 29)) : S5 Inv B O0 w s none none W1 := by
 subst hW
 have h0 : Now Inv s O0 O0 w w := ⟨h, Fr.refl _ _⟩
 exact ⟨O0, h0.alloc T _, Box.new T h0 Z16, (fun g hg => by cases hg), (fun g hg => by cases hg), (fun g hg => by cases hg)⟩
theorem S5.below (T : Told K caps G N B Inv P) (h : S5 Inv B O0 w s bl br W) (hb : Below W.heap.size W W') : S5 Inv B O0 w s bl br W' := by
 obtain ⟨O, h1, h2, h3, h4, h5⟩ := h
 exact ⟨O, h1.below T hb, h2.below hb, fun g hg => ⟨(h3 g hg).1.below hb, (h3 g hg).2⟩, fun g hg => ⟨(h4 g hg).1.below hb, (h4 g hg).2⟩, h5⟩
theorem S5.close (T : Told K caps G N B Inv P) (hz : B ≤ w.heap.size) (h : S5 Inv B O0 w s bl br W) (c : Array Value) : ∃ O', Inv s O' (W.setRow w.heap.size c) ∧ Fr O0 O' w (W.setRow w.heap.size c) := by
 obtain ⟨O, h1, h2, _⟩ := h
 have := h1.row T (Nat.le_refl _) hz h2.out c
 exact ⟨O, this.inv, this.fr⟩
theorem S5.box (h : S5 Inv B O0 w s bl br W) : W.heap[w.heap.size]? = some (.cells Z16.toArray 29 (0, 0)) := by
 obtain ⟨O, h1, h2, _⟩ := h; exact h2.blk
theorem S5.tab (T : Told K caps G N B Inv P) (h : S5 Inv B O0 w s bl br W) : Tab 1 W := by
 obtain ⟨O, h1, _⟩ := h; exact T.tab _ _ _ h1.inv
section
variable {D1 D2 : List UInt8} {gl gq : Nat}
theorem E5.below (T : Told K caps G N B Inv P) (h : E5 Inv O0 w s D1 D2 gl gq W) (hb : Below W.heap.size W W') : E5 Inv O0 w s D1 D2 gl gq W' := by
 obtain ⟨O, h1, h2, h3, h4, h5⟩ := h
 exact ⟨O, h1.below T hb, h2.below hb, h3.below hb, h4.below hb, h5⟩
theorem E5.blks (h : E5 Inv O0 w s D1 D2 gl gq W) : Blk W gl 29 (B8 D1) ∧ Blk W gq 29 (B8 D2) := by
 obtain ⟨O, h1, h2, h3, h4, h5⟩ := h; exact ⟨h3.blk, h4.blk⟩
theorem E5.far (h : E5 Inv O0 w s D1 D2 gl gq W) : gl ≠ w.heap.size ∧ gq ≠ w.heap.size := by
 obtain ⟨O, h1, h2, h3, h4, h5⟩ := h; exact h5
theorem E5.rest (h : E5 Inv O0 w s D1 D2 gl gq W) (B : Nat) : S5 Inv B O0 w s none none W := by
 obtain ⟨O, h1, h2, h3, h4⟩ := h
 exact ⟨O, h1, h2, (fun g hg => by cases hg), (fun g hg => by cases hg), (fun g hg => by cases hg)⟩
end
end
end Go.Proofs.YtofccgkgjcnfbaaDoor
