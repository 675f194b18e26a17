/-
  The contract of hash.compress.
  Condition: the table of the round constants is as the text lays it.
-/
import Derived.Test.YtofccgkgjcnfbaaDoorSched
namespace Go.Proofs.YtofccgkgjcnfbaaDoor
open Go.RowKit Wr Sh
set_option linter.unusedVariables false
theorem not_go (x : W) : bits .xor .u32 (if IntKind.u32.signed = true then -1 else IntKind.u32.max) (val x) = val (~~~x) := by
  have h : (if IntKind.u32.signed = true then -1 else IntKind.u32.max) = val (BitVec.allOnes 32) := by rfl
  rw [h, xor_val, BitVec.xor_comm, BitVec.xor_allOnes]
attribute [local go_sem] xor_val and_val or_val add_val add_val' not_go

/-- The table in block g holds the round constants. -/
def Tab (g : Nat) (w : World) : Prop := g < w.heap.size ∧ ∀ t, t < 64 → w.cell? ⟨g, t, none⟩ = some (.int .u32 (val (K t)))
theorem Tab.below {g : Nat} {w w' : World} {B : Nat} (h : Tab g w) (hb : Below B w w') (hg : g < B) : Tab g w' :=
  ⟨Nat.lt_of_lt_of_le h.1 hb.size, fun t ht => (hb.cell (p := ⟨g, t, none⟩) hg).trans (h.2 t ht)⟩
theorem Tab.drewN {g : Nat} {w : World} (h : Tab g w) (n : Nat) : Tab g (w.drewN n) := h

/-- Where the first j words have been added. -/
def mix (v s : S8) (j : Nat) : List W := (v.add s).list.take j ++ v.list.drop j
theorem mix_len (v s : S8) (j : Nat) (h : j ≤ 8) : (mix v s j).length = 8 := by
  simp [mix, S8.list]; omega
theorem mix_at (v s : S8) (j : Nat) (h : j < 8) : ∃ x y : W,
    (∀ w : World, (Instr.index 148 (.agg #[.int .u32 (val s.a), .int .u32 (val s.b), .int .u32 (val s.c), .int .u32 (val s.d), .int .u32 (val s.e), .int .u32 (val s.f), .int .u32 (val s.g), .int .u32 (val s.h)]) (.int .i64 (j : Int))).run Tryd.prog w = .ok (.int .u32 (val x)) w) ∧
    (U32 (mix v s j))[j]? = some (.int .u32 (val y)) ∧ (U32 (mix v s j)).set j (.int .u32 (val (y + x))) = U32 (mix v s (j + 1)) := by
  have hj : j = 0 ∨ j = 1 ∨ j = 2 ∨ j = 3 ∨ j = 4 ∨ j = 5 ∨ j = 6 ∨ j = 7 := by omega
  rcases hj with rfl | rfl | rfl | rfl | rfl | rfl | rfl | rfl
  · exact ⟨s.a, v.a, fun W => by kernel_rfl, rfl, rfl⟩
  · exact ⟨s.b, v.b, fun W => by kernel_rfl, rfl, rfl⟩
  · exact ⟨s.c, v.c, fun W => by kernel_rfl, rfl, rfl⟩
  · exact ⟨s.d, v.d, fun W => by kernel_rfl, rfl, rfl⟩
  · exact ⟨s.e, v.e, fun W => by kernel_rfl, rfl, rfl⟩
  · exact ⟨s.f, v.f, fun W => by kernel_rfl, rfl, rfl⟩
  · exact ⟨s.g, v.g, fun W => by kernel_rfl, rfl, rfl⟩
  · exact ⟨s.h, v.h, fun W => by kernel_rfl, rfl, rfl⟩

theorem size30 (l : List W) (h : l.length = 8) : (Tryd.prog.info? 148).map (·.size) = some (U32 l).length := by
  rw [U32_len, h]; kernel_rfl
theorem size30' (l : List W) (h : l.length = 8) : (Tryd.prog.info? 148).map (·.size) = some (U32 l).toArray.size := size30 l h
theorem size31 (d : List UInt8) (h : d.length = 64) : (Tryd.prog.info? 149).map (·.size) = some (B8 d).length := by
  rw [B8_len, h]; kernel_rfl
theorem one8 (d : List UInt8) : (B8 d).toArray.all (·.oneCell') = true := by
  rw [Array.all_eq_true_iff_forall_mem]; intro u hu; exact B8_one d u (by simpa using hu)

set_option maxRecDepth 100000 in
set_option maxHeartbeats 4000000 in
theorem compress_go (v : S8) (b : List UInt8) (w : World) (hb : b.length = 64) (ht : Tab 1 w) (L : List W) (HL0 : Hid (L = sched b)) (R : List W) (HR : Hid (R = (compress v b).list)) :
    Calls Tryd.prog 113 #[.agg (U32 v.list).toArray, .agg (B8 b).toArray] w fun e w' => e = .returned (.agg (U32 R).toArray) ∧ Below w.heap.size w w' := by
  have Hb := Lib.hid hb
  have HT := Lib.hid ht
  clear hb ht
  have HC1 := Lib.hid (fun O : Obj => Blk.at ((Blk.newAt (w.alloc (.cells (U32 v.list).toArray 148)) (w.heap.size + 1) 149 (B8 b) (by simp)).alloc O))
  have hl : L.length = 64 := by rw [HL0.out]; exact wl_len b 48
  have HL := Lib.hid hl
  have HS := Lib.hid (show (U32 L).length = 64 by rw [U32_len, hl])
  clear hl
  go_enter Tryd.func113, Tryd.ntmps113
  go_wp2_with (first
    | (with_reducible refine wpList_load_at rfl 149 (.tmp 3) rfl ⟨w.heap.size + 1, 0, none⟩ rfl (B8 b) (.array 64 5) (HC1.out _) Tryd.underlying149 rfl (size31 _ Hb.out) ?_)
    | (go_at_call 115; refine (schedule_go b _ Hb.out L HL0).mono ?_; rintro e w1 ⟨rfl, hb1⟩; have HB1 := Lib.hid hb1; clear hb1)
    | (with_reducible refine wpList_store_row rfl 160 (.tmp 5) (.tmp 20) rfl w1.heap.size (U32 L).toArray rfl rfl 160 _ (heap_alloc_new w1 _) (size55' _ HL.out) (by simp [HS.out]) (U32_one _) ?_))
  generalize hW : World.setRow _ _ _ = W1
  have f1 : Blk W1 w.heap.size 148 (U32 v.list) := by
    rw [← hW]
    exact ((((((Blk.new w 148 (U32 v.list)).alloc _).alloc _).below HB1.out (by simp; omega)).alloc _).setRow (by have := HB1.out.size; simp at this; omega) _)
  have f3 : Blk W1 (w.heap.size + 1 + 1) 148 (U32 (List.replicate 8 0)) := by
    rw [← hW]
    exact ((((Blk.newAt ((w.alloc (.cells (U32 v.list).toArray 148)).alloc (.cells (B8 b).toArray 149)) (w.heap.size + 1 + 1) 148 (U32 (List.replicate 8 0)) (by simp)).below HB1.out (by simp)).alloc _).setRow (by have := HB1.out.size; simp at this; omega) _)
  have f5 : Blk W1 w1.heap.size 160 (U32 L) := by
    rw [← hW]
    exact Blk.row (Blk.new w1 160 (U32 (List.replicate 64 0))) (U32 L)
  have hM : w.heap.size + 1 + 1 + 1 ≤ w1.heap.size := by have := HB1.out.size; simp at this; omega
  have hbel : Below w.heap.size w W1 := by
    rw [← hW]
    exact belowRow ((((((Below.refl _ _).alloc (Nat.le_refl _) _).alloc (by simp) _).alloc (by simp; omega) _).trans (HB1.out.mono (by simp; omega))).alloc (by omega) _) (by omega) _
  have HB := Lib.hid hbel
  clear hW HB1 HC1
  obtain ⟨M, hM0⟩ : ∃ M, M = w1.heap.size := ⟨_, rfl⟩
  rw [← hM0] at f5 hM ⊢
  clear hM0
  have c0 : W1.cell? ⟨w.heap.size, 0, none⟩ = some (.int .u32 (val v.a)) := f1.cell 0
  have c1 : W1.cell? ⟨w.heap.size, 1, none⟩ = some (.int .u32 (val v.b)) := f1.cell 1
  have c2 : W1.cell? ⟨w.heap.size, 2, none⟩ = some (.int .u32 (val v.c)) := f1.cell 2
  have c3 : W1.cell? ⟨w.heap.size, 3, none⟩ = some (.int .u32 (val v.d)) := f1.cell 3
  have c4 : W1.cell? ⟨w.heap.size, 4, none⟩ = some (.int .u32 (val v.e)) := f1.cell 4
  have c5 : W1.cell? ⟨w.heap.size, 5, none⟩ = some (.int .u32 (val v.f)) := f1.cell 5
  have c6 : W1.cell? ⟨w.heap.size, 6, none⟩ = some (.int .u32 (val v.g)) := f1.cell 6
  have c7 : W1.cell? ⟨w.heap.size, 7, none⟩ = some (.int .u32 (val v.h)) := f1.cell 7
  go_quiet (fail)
  clear c0 c1 c2 c3 c4 c5 c6 c7
  generalize hq : W1.drewN nq = W2
  replace f1 : Blk W2 w.heap.size 148 (U32 v.list) := by rw [← hq]; exact f1.drewN _
  replace f3 : Blk W2 (w.heap.size + 1 + 1) 148 (U32 (List.replicate 8 0)) := by rw [← hq]; exact f3.drewN _
  replace f5 : Blk W2 M 160 (U32 L) := by rw [← hq]; exact f5.drewN _
  replace HB : Hid (Below w.heap.size w W2) := by rw [← hq]; exact Lib.hid (below_drewN HB.out _)
  clear hq nq
  go_wp2
  go_loopw [6, 7, 8, 9, 10, 11, 12, 13, 37] (fun s6 s7 s8 s9 s10 s11 s12 s13 s37 wr => ∃ (t : Nat) (s : S8), t ≤ 64 ∧ Hid (s = rnds v L t) ∧ s37 = .int .i64 t ∧
      s6 = .int .u32 (val s.a) ∧ s7 = .int .u32 (val s.b) ∧ s8 = .int .u32 (val s.c) ∧ s9 = .int .u32 (val s.d) ∧ s10 = .int .u32 (val s.e) ∧ s11 = .int .u32 (val s.f) ∧ s12 = .int .u32 (val s.g) ∧ s13 = .int .u32 (val s.h) ∧
      Blk wr w.heap.size 148 (U32 v.list) ∧ Blk wr (w.heap.size + 1 + 1) 148 (U32 (List.replicate 8 0)) ∧ Blk wr M 160 (U32 L) ∧ Hid (Below w.heap.size w wr))
    (fun _ _ _ _ _ _ _ _ s37 _ => 64 - (intOf s37).toNat)
  case atStart => exact ⟨0, v, by omega, Lib.hid rfl, rfl, rfl, rfl, rfl, rfl, rfl, rfl, rfl, rfl, f1, f3, f5, HB⟩
  case round =>
  clear f1 f3 f5 HB
  obtain ⟨t, s, ht, hs, rfl, rfl, rfl, rfl, rfl, rfl, rfl, rfl, rfl, f1, f3, f5, HB⟩ := hrel
  by_cases hlt : t < 64
  · have ht1 : (t : Int) < 64 := by omega
    have hL := HL.out
    obtain ⟨k, Hk, ck⟩ : ∃ k : W, Hid (k = K t) ∧ wr.cell? ⟨1, t, none⟩ = some (.int .u32 (val k)) := ⟨_, Lib.hid rfl, (HT.out.below HB.out HT.out.1).2 t hlt⟩
    obtain ⟨x, Hx, cx⟩ : ∃ x : W, Hid (x = L.getD t 0) ∧ wr.cell? ⟨M, t, none⟩ = some (.int .u32 (val x)) := ⟨_, Lib.hid rfl, by
      rw [f5.cell, U32, List.getElem?_map, List.getD_eq_getElem?_getD, List.getElem?_eq_getElem (by omega)]; rfl⟩
    clear hL
    go_wp2
    go_quiet (exact Calls.quiet_of_same (rots_m _ _ _ (by decide)))
    go_wp2_with (go_at_call 116; refine (rotr_m _ _ _ (by decide)).mono ?_; rintro e w' ⟨rfl, rfl⟩)
    go_roundw
    case rel => exact ⟨t + 1, round s k x, by omega, Lib.hid (by rw [hs.out, Hk.out, Hx.out]; rfl), by go_num, rfl, rfl, rfl, rfl, rfl, rfl, rfl, rfl, f1.drewN _, f3.drewN _, f5.drewN _, Lib.hid (below_drewN HB.out _)⟩
    case measure => simp only [intOf]; omega
  · have hS : s = rnds v L 64 := by rw [hs.out, show t = 64 by omega]
    have HS := Lib.hid hS
    clear hS hs f5 HL HT
    go_wp2
    go_loopw [109] (fun s109 wr => ∃ j : Nat, j ≤ 8 ∧ s109 = .int .i64 j ∧ Blk wr w.heap.size 148 (U32 (mix v s j)) ∧ Blk wr (w.heap.size + 1 + 1) 148 (U32 (List.replicate 8 0)) ∧ Hid (Below w.heap.size w wr))
      (fun s109 _ => 8 - (intOf s109).toNat)
    case atStart => exact ⟨0, by omega, rfl, f1, f3, HB⟩
    case round =>
    clear f1 f3 HB
    obtain ⟨j, hj, rfl, f1, f3, HB⟩ := hrel
    by_cases hj8 : j < 8
    · obtain ⟨x, y, hix, hy, hset⟩ := mix_at v s j hj8
      have cj : wr.cell? ⟨w.heap.size, j, none⟩ = some (.int .u32 (val y)) := (f1.cell j).trans hy
      have fj := f1.frozen j
      have Hset := Lib.hid hset
      clear hset hy
      go_wp2
      go_roundw
      case rel =>
        refine ⟨j + 1, by omega, by go_num, ?_, f3.far (show w.heap.size + 1 + 1 ≠ w.heap.size by omega) _, Lib.hid (HB.out.setCell (Nat.le_refl _) _)⟩
        have := f1.put j (.int .u32 (val (y + x)))
        rw [Hset.out] at this
        exact this
      case measure => simp only [intOf]; omega
    · have f2 : Blk wr w.heap.size 148 (U32 R) := by
        rw [HR.out]
        have : compress v b = v.add s := by rw [HS.out, HL0.out]; rfl
        rw [this]
        have h8 : j = 8 := by omega
        subst h8
        exact f1
      have hl8 : R.length = 8 := by rw [HR.out]; rfl
      have HL8 := Lib.hid hl8
      have HU8 := Lib.hid (show (U32 (List.replicate 8 0)).toArray.size = (U32 R).toArray.size by simp [U32_len, hl8])
      have F2 := Lib.hid f2.at
      have F3 := Lib.hid (show wr.heap[w.heap.size + 1 + 1]? = some (.cells (U32 (List.replicate 8 0)).toArray 148 (0, 0)) from f3)
      have hbel := HB.out
      clear f1 f2 f3 hl8 HS HB
      go_wp2_with (first
        | (with_reducible refine wpList_load_at rfl 148 (.tmp 2) rfl ⟨w.heap.size, 0, none⟩ rfl (U32 R) (.array 8 147) F2.out Tryd.underlying148 rfl (size30 _ HL8.out) ?_)
        | (with_reducible refine wpList_store_row rfl 148 (.tmp 4) (.tmp 120) rfl (w.heap.size + 1 + 1) (U32 R).toArray rfl rfl 148 _ F3.out (size30' _ HL8.out) HU8.out (U32_one _) ?_))
      refine bodyPost_ret (v := .agg (U32 R).toArray) ?_ rfl ⟨rfl, belowRow hbel (by omega) _⟩
      have hr := run_loadVar_row (P := Tryd.prog) _ (w.heap.size + 1 + 1) 148 148 (U32 R).toArray (0, 0) (.array 8 147) (heap_setRow wr (w.heap.size + 1 + 1) (U32 R).toArray _ 148 F3.out) Tryd.underlying148 rfl (size30' _ HL8.out)
      simp [results, asAddr, hr, Act.put]
theorem compress_any (v : S8) (b : List UInt8) (w : World) (hb : b.length = 64) (ht : Tab 1 w) :
    Calls Tryd.prog 113 #[.agg (U32 v.list).toArray, .agg (B8 b).toArray] w fun e w' => e = .returned (.agg (U32 (compress v b).list).toArray) ∧ Below w.heap.size w w' :=
  compress_go v b w hb ht _ (Lib.hid rfl) _ (Lib.hid rfl)
end Go.Proofs.YtofccgkgjcnfbaaDoor
