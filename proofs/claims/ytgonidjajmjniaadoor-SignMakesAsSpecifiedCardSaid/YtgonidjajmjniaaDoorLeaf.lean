/-
  The contract of sign's leaf; a digest of one part; bytes that lie in a block, as a string.
  Conditions: the part has at most 2^20 bytes; the table of the round constants is as the text lays it.
-/
import Derived.Test.YtgonidjajmjniaaDoorMac
import Derived.Test.YtgonidjajmjniaaDoorEqD
namespace Go.Proofs.YtgonidjajmjniaaDoor
open Go.RowKit Wr Sh
set_option linter.unusedVariables false
set_option maxRecDepth 100000

/-- A digest of parts. -/
def dof (t : UInt8) (l : List ByteArray) : List UInt8 := (sha (inp t l)).take 16
theorem dof_len (t : UInt8) (l : List ByteArray) : (dof t l).length = 16 := by unfold dof; rw [List.length_take, sha_len]; rfl
def leafOf (T : List UInt8) : List UInt8 := dof 3 [⟨(dof 2 [⟨T.toArray⟩]).toArray⟩]
theorem inp_1 (t : UInt8) (s : ByteArray) : (inp t [s]).length ≤ s.size + 20 := by
  unfold inp
  have := (enc_le (s.size : Int)).2
  simp [encStr] at this ⊢
  omega
theorem conv_at (g o c : Nat) (T : List UInt8) (W : World) (hc : ∀ (j : Nat) u, (B8 T)[j]? = some u → W.cell? ⟨g, o + j, none⟩ = some u) :
    (convert 54 9 (.slice (some ⟨g, o, none⟩) T.length c)).run Tryd.prog W = .ok (.string ⟨T.toArray⟩) W :=
  run_convert_bytes_back (P := Tryd.prog) W 54 9 5 ⟨g, o, none⟩ c T Tryd.underlying54 Tryd.underlying5 Tryd.underlying9 (fun j hj => by rw [Addr.add_lit]; exact hc j _ (B8_get _ _ hj))
theorem rd_St1 (W : World) (s : ByteArray) : Rd (W.alloc (.cells #[.string s] 9)) (W.alloc (.cells #[.string s] 9)).heap.size (some ⟨W.heap.size, 0, none⟩) (St [s]) := by
  intro _
  refine ⟨W.heap.size, 0, rfl, by simp, fun j u hu => ?_⟩
  rw [Nat.zero_add, cell_of_row _ _ _ _ _ _ (heap_alloc_new W _)]
  simpa [St] using hu

theorem size23' (d : List UInt8) (h : d.length = 16) : (Tryd.prog.info? 23).map (·.size) = some (B8 d).toArray.size := size23 d h
/-- The cells of a digest of noughts. -/
def Z16 : List Value := B8 (List.replicate 16 0)
theorem Z16_size (L : List UInt8) (h : L.length = 16) : Z16.toArray.size = (B8 L).toArray.size := by rw [List.size_toArray, List.size_toArray, B8_len, h]; rfl
/-- hash.Of of one part, the list just built. -/
theorem of_one (tag : Int) (t8 : UInt8) (htag : IntKind.u8.wrap tag = (t8.toNat : Int)) (s : ByteArray) (hs : s.size ≤ 1048576) (W0 : World) (g : Nat) (hg : g = W0.heap.size) (ht : Tab 1 (W0.alloc (.cells #[.string s] 9))) (D : List UInt8) (hD : Hid (D = dof t8 [s])) :
    Calls Tryd.prog 35 #[.int .i64 tag, .slice (some ⟨g, 0, none⟩) 1 1] (W0.alloc (.cells #[.string s] 9)) fun e w' => e = .returned (.agg (B8 D).toArray) ∧ Below (W0.alloc (.cells #[.string s] 9)).heap.size (W0.alloc (.cells #[.string s] 9)) w' := by
  subst hg
  rw [hD.out]
  exact of_go tag (some ⟨W0.heap.size, 0, none⟩) [s] 1 _ (rd_St1 W0 s) (Nat.le_refl _) t8 htag (by have := inp_1 t8 s; omega) ht _ (Lib.hid rfl)

set_option maxHeartbeats 4000000 in
theorem leaf_any (g o c : Nat) (T : List UInt8) (w : World) (hg : g < w.heap.size) (hc : ∀ (j : Nat) u, (B8 T)[j]? = some u → w.cell? ⟨g, o + j, none⟩ = some u) (hl : T.length ≤ 1048576) (ht : Tab 1 w) (R : List UInt8) (hR : Hid (R = leafOf T)) :
    Calls Tryd.prog 40 #[.slice (some ⟨g, o, none⟩) T.length c] w fun e w' => e = .returned (.agg (B8 R).toArray) ∧ Below w.heap.size w w' := by
  obtain ⟨N, hN⟩ : ∃ N, N = T.length := ⟨_, rfl⟩
  have hcv := fun (O : Obj) => conv_at g o c T (w.alloc O) (fun j u hu => by rw [Below.cell ((Below.refl _ _).alloc (Nat.le_refl _) O) hg]; exact hc j u hu)
  rw [← hN] at hcv ⊢
  have HT := Lib.hid ht
  obtain ⟨s, hs⟩ : ∃ s : ByteArray, s = ⟨T.toArray⟩ := ⟨_, rfl⟩
  rw [← hs] at hcv
  have hss : s.size ≤ 1048576 := by rw [hs]; simpa [ByteArray.size] using hl
  obtain ⟨D, hD⟩ : ∃ D, D = dof 2 [s] := ⟨_, rfl⟩
  have HD := Lib.hid hD
  have HDl := Lib.hid (show D.length = 16 by rw [hD]; exact dof_len _ _)
  obtain ⟨s2, hs2⟩ : ∃ s : ByteArray, s = ⟨D.toArray⟩ := ⟨_, rfl⟩
  have hss2 : s2.size ≤ 1048576 := by rw [hs2]; have := HDl.out; simp [ByteArray.size, this]
  have HR := Lib.hid (show R = dof 3 [s2] by rw [hR.out, leafOf, ← hs, ← hD, ← hs2])
  have HRl := Lib.hid (show R.length = 16 by rw [HR.out]; exact dof_len _ _)
  have HS2 := Lib.hid hs2
  have HB0 := Lib.hid (fun O : Obj => ((Below.refl w.heap.size w).alloc (Nat.le_refl _) O))
  have HSZ := Lib.hid Z16_size
  have HK := Lib.hid (Blk.new w 23 Z16)
  clear hc hN ht hs hD hs2 hR
  have hZ : (#[.int .u8 0, .int .u8 0, .int .u8 0, .int .u8 0, .int .u8 0, .int .u8 0, .int .u8 0, .int .u8 0, .int .u8 0, .int .u8 0, .int .u8 0, .int .u8 0, .int .u8 0, .int .u8 0, .int .u8 0, .int .u8 0] : Array Value) = Z16.toArray := by rfl
  go_enter Tryd.func40, Tryd.ntmps40
  go_wp2_with fail
  obtain ⟨W1, hW1⟩ : ∃ W, W = w.alloc (.cells Z16.toArray 23) := ⟨_, rfl⟩
  have B1 := Lib.hid (show Below w.heap.size w W1 by rw [hW1]; exact HB0.out _)
  have K1 := Lib.hid (show Blk W1 w.heap.size 23 Z16 by rw [hW1]; exact HK.out)
  rw [← hW1]
  have HW1 := Lib.hid hW1
  clear hW1
  have L1 := Lib.hid (show w.heap.size < W1.heap.size from K1.out.lt)
  have G1 : w.heap.size + 1 = W1.heap.size := by have := HW1.out; rw [this]; simp
  have B1' := Lib.hid (show Below w.heap.size w (W1.alloc (.cells #[.string s] 9)) from B1.out.alloc B1.out.size _)
  refine (of_one 2 2 (by rfl) s hss W1 _ G1 (HT.out.below B1'.out HT.out.1) D HD).mono ?_; rintro e w2 ⟨rfl, hb2⟩
  have B2 := Lib.hid (B1'.out.trans (hb2.mono B1'.out.size))
  have K2 := Lib.hid (show Blk w2 w.heap.size 23 Z16 from (K1.out.alloc _).below hb2 (K1.out.alloc _).lt)
  clear hb2
  obtain ⟨W3, hW3⟩ : ∃ W, W = (w2.alloc (.cells Z16.toArray 23)).setRow w2.heap.size (B8 D).toArray := ⟨_, rfl⟩
  have K3 := Lib.hid (show Blk W3 w2.heap.size 23 (B8 D) by rw [hW3]; exact (Blk.new w2 23 Z16).row _)
  have hcv2 := conv_at w2.heap.size 0 16 D W3 (fun j u hu => by rw [Nat.zero_add, K3.out.cell]; exact hu)
  rw [HDl.out, ← HS2.out, hW3] at hcv2
  have B3 := Lib.hid (show Below w.heap.size w W3 by rw [hW3]; exact belowRow (B2.out.alloc B2.out.size _) B2.out.size _)
  have G3 := Lib.hid (show w2.heap.size + 1 = W3.heap.size by rw [hW3]; simp)
  have M3 := Lib.hid (show Blk W3 w.heap.size 23 Z16 by rw [hW3]; exact (K2.out.alloc _).setRow (by have := K2.out.lt; omega) _)
  go_wp2_with (with_reducible refine wpList_store_row rfl 23 (.tmp 3) (.tmp 7) rfl w2.heap.size (B8 D).toArray rfl rfl 23 _ (heap_alloc_new w2 _) (size23' _ HDl.out) (HSZ.out _ HDl.out) (one8 _) ?_)
  rw [← hW3]
  clear hW3 hcv hcv2
  go_wp2_with fail
  have B3' := Lib.hid (show Below w.heap.size w (W3.alloc (.cells #[.string s2] 9)) from B3.out.alloc B3.out.size _)
  refine (of_one 3 3 (by rfl) s2 hss2 W3 _ G3.out (HT.out.below B3'.out HT.out.1) R HR).mono ?_; rintro e w4 ⟨rfl, hb4⟩
  have B4 := Lib.hid (B3'.out.trans (hb4.mono B3'.out.size))
  have K4 := Lib.hid (show w4.heap[w.heap.size]? = some (.cells Z16.toArray 23 (0, 0)) from (M3.out.alloc _).below hb4 (M3.out.alloc _).lt)
  clear hb4
  go_wp2_with (with_reducible refine wpList_store_row rfl 23 (.tmp 2) (.tmp 11) rfl w.heap.size (B8 R).toArray rfl rfl 23 _ K4.out (size23' _ HRl.out) (HSZ.out _ HRl.out) (one8 _) ?_)
  refine bodyPost_ret (v := .agg (B8 R).toArray) ?_ rfl ⟨rfl, belowRow B4.out (Nat.le_refl _) _⟩
  have hr := run_loadVar_row (P := Tryd.prog) _ w.heap.size 23 23 (B8 R).toArray (0, 0) (.array 16 5) (heap_setRow w4 w.heap.size (B8 R).toArray _ 23 K4.out) Tryd.underlying23 rfl (size23' _ HRl.out)
  simp [results, Tryd.results40, asAddr, hr, Act.put]
end Go.Proofs.YtgonidjajmjniaaDoor
