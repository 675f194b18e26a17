/-
  The contracts of merkle's Root, Prove and Range.
  Conditions: at most 2^30 leaves, keys and values of at most 2^30 bytes; the table of the round constants is as the text lays it.
-/
import Derived.Test.YtofccgkgjcnfbaaDoorIs
import Derived.Test.YtofccgkgjcnfbaaDoorBnd
namespace Go.Proofs.YtofccgkgjcnfbaaDoor
open Go.RowKit Wr Sh
set_option linter.unusedVariables false
set_option maxRecDepth 100000

/-- A list of leaves in memory. -/
structure LsAt (W : World) (B : Nat) (A : Option Addr) (L : List Lf) (c : Nat) : Prop where
  rd : Rd W B A (LC L)
  cap : L.length ≤ c
  nil : A = none → c = 0
  ok : okL L
def Z16L : List UInt8 := List.replicate 16 0
def rootR (L : List Lf) : List UInt8 := if validE L = 0 then rootD node lf top L else Z16L
theorem rootD_len (L : List Lf) : (rootD node lf top L).length = 16 := by
  unfold rootD rootRun top; split <;> exact dof_len _ _
theorem rootR_len (L : List Lf) : (rootR L).length = 16 := by
  unfold rootR; split
  · exact rootD_len L
  · rfl
/-- A box for a result, and all that was there. -/
structure Kz (w : World) (t : TypeId) (cs : List Value) (W : World) : Prop where
  z : Blk W w.heap.size t cs
  b : Below w.heap.size w W
theorem Kz.first {w W1 : World} {t : TypeId} {cs : List Value} (h : W1 = w.alloc (.cells cs.toArray t)) : Kz w t cs W1 := by
  subst h; exact ⟨Blk.new w t cs, (Below.refl _ _).alloc (Nat.le_refl _) _⟩
theorem Kz.below {w W W' : World} {t : TypeId} {cs : List Value} (h : Kz w t cs W) (hb : Below W.heap.size W W') : Kz w t cs W' := ⟨h.z.below hb h.z.lt, h.b.trans (hb.mono h.b.size)⟩
theorem LsAt.below {W W' : World} {B : Nat} {A : Option Addr} {L : List Lf} {c : Nat} (h : LsAt W B A L c) (hb : Below B W W') : LsAt W' B A L c := ⟨h.rd.below hb, h.cap, h.nil, h.ok⟩
theorem LsAt.more {W : World} {B B' : Nat} {A : Option Addr} {L : List Lf} {c : Nat} (h : LsAt W B A L c) (hb : B ≤ B') : LsAt W B' A L c := ⟨h.rd.more hb, h.cap, h.nil, h.ok⟩
set_option maxHeartbeats 4000000 in
theorem root_any (A : Option Addr) (L : List Lf) (c : Nat) (w : World) (h : LsAt w w.heap.size A L c) (ht : Tab 1 w) (R : List UInt8) (hR : Hid (R = rootR L)) :
    Calls Tryd.prog 12 #[.slice A L.length c] w fun e w' => e = .returned (.tuple #[.agg (B8 R).toArray, .int .i64 (validE L)]) ∧ Below w.heap.size w w' := by
  have hZ := hZ16
  obtain ⟨W1, hW1⟩ : ∃ W, W = w.alloc (.cells Z16.toArray 29) := ⟨_, rfl⟩
  have K1 := Lib.hid (Kz.first hW1)
  have HW := Lib.hid hW1
  have H := Lib.hid h
  have HT := Lib.hid ht
  have HRl := Lib.hid (show R.length = 16 by rw [hR.out]; exact rootR_len L)
  have hln := h.ok.1
  obtain ⟨V, hV⟩ : ∃ V, V = validE L := ⟨_, rfl⟩
  have HV := Lib.hid (valid_any A L c W1 h.ok ((h.below K1.out.b).more K1.out.b.size).rd)
  rw [← hV] at HV ⊢
  have HVE := Lib.hid hV
  clear h ht hW1 hV
  by_cases hv : V = 0
  · subst hv
    have HRD := Lib.hid (show R = rootD node lf top L by rw [hR.out]; unfold rootR; rw [if_pos HVE.out.symm])
    go_enter Tryd.func12, Tryd.ntmps12
    go_upto_region 4 with (go_at_call 15; rw [← HW.out]; refine HV.out.mono ?_; rintro e w2 ⟨rfl, hb2⟩; have HB2 := Lib.hid hb2; clear hb2)
    have K2 := Lib.hid (K1.out.below HB2.out)
    obtain ⟨W3, hW3⟩ : ∃ W, W = w2.alloc (.cells #[.slice A L.length c] 33) := ⟨_, rfl⟩
    have hb3 : Below w2.heap.size w2 W3 := by rw [hW3]; exact (Below.refl _ _).alloc (Nat.le_refl _) _
    have K3 := Lib.hid (K2.out.below hb3)
    have hs3 : W3.heap.size = w2.heap.size + 1 := by rw [hW3]; simp
    have told := toldSingle w.heap.size W3.heap.size w2.heap.size A L c (by omega) HT.out.1 K3.out.b.size H.out.ok
    have HC := Lib.hid (rootOf_any told hln L.length () (fun _ => False) W3 (Nat.le_refl _) ⟨fun _ => id, Nat.le_refl _, {
      cell := by rw [hW3]; exact ((Blk.new w2 33 [.slice A L.length c]).cell 0).trans rfl
      rd := H.out.rd.below K3.out.b
      tab := HT.out.below K3.out.b HT.out.1 }⟩ trivial)
    have HRT := Lib.hid (show (rootRun node top (gSingle (leafAt lf L)) () L.length).1 = R from HRD.out.symm)
    rw [HRT.out] at HC
    have HW3 := Lib.hid hW3
    clear hW3 hb3 hs3 told HV
    go_wp2_with (first
      | (go_at_call 51; refine (digestOf_any A L.length c _).mono ?_; rintro e w3 ⟨rfl, rfl⟩))
    rw [← HW3.out]
    refine HC.out.mono ?_; rintro e w5 ⟨rfl, O5, _, F5⟩
    have K5 := Lib.hid (K3.out.below F5.toBelow)
    have Z5 := Lib.hid (show w5.heap[w.heap.size]? = some (.cells Z16.toArray 29 (0, 0)) from K5.out.z)
    clear F5
    go_wp2_with (with_reducible refine wpList_store_row rfl 29 (.tmp 2) (.tmp 15) rfl w.heap.size (B8 R).toArray rfl rfl 29 _ Z5.out (size29' _ HRl.out) (Z16_size _ HRl.out) (one8 _) ?_)
    refine bodyPost_ret (v := .tuple #[.agg (B8 R).toArray, .int .i64 0]) ?_ rfl ⟨rfl, belowRow K5.out.b (Nat.le_refl _) _⟩
    have hr := run_loadVar_row (P := Tryd.prog) _ w.heap.size 29 29 (B8 R).toArray (0, 0) (.array 16 5) (heap_setRow w5 w.heap.size (B8 R).toArray _ 29 Z5.out) Tryd.underlying29 rfl (size29' _ HRl.out)
    simp [results, Tryd.results12, asAddr, hr]
  · have c61 : (V == 0) = false := by rw [beq_eq_false_iff_ne]; exact hv
    have HRD := Lib.hid (show R = Z16L by rw [hR.out]; unfold rootR; rw [if_neg (by rw [← HVE.out]; exact hv)])
    have ZO := Lib.hid (show Z16.toArray.all (·.oneCell') = true from one8 (List.replicate 16 0))
    have ZS := Lib.hid (show (Tryd.prog.info? 29).map (·.size) = some Z16.toArray.size from size29' (List.replicate 16 0) rfl)
    clear hv
    go_enter Tryd.func12, Tryd.ntmps12
    go_upto_region 3 with (go_at_call 15; rw [← HW.out]; refine HV.out.mono ?_; rintro e w2 ⟨rfl, hb2⟩; have HB2 := Lib.hid hb2; clear hb2)
    have K2 := Lib.hid (K1.out.below HB2.out)
    have Z5 := Lib.hid (show w2.heap[w.heap.size]? = some (.cells Z16.toArray 29 (0, 0)) from K2.out.z)
    go_wp2_with (with_reducible refine wpList_store_row rfl 29 (.tmp 2) (.tmp 9) rfl w.heap.size Z16.toArray rfl rfl 29 _ Z5.out ZS.out rfl ZO.out ?_)
    refine bodyPost_ret (v := .tuple #[.agg Z16.toArray, .int .i64 V]) ?_ rfl ⟨by rw [HRD.out]; rfl, belowRow K2.out.b (Nat.le_refl _) _⟩
    have hr := run_loadVar_row (P := Tryd.prog) _ w.heap.size 29 29 Z16.toArray (0, 0) (.array 16 5) (heap_setRow w2 w.heap.size Z16.toArray _ 29 Z5.out) Tryd.underlying29 rfl ZS.out
    simp [results, Tryd.results12, asAddr, hr]
end Go.Proofs.YtofccgkgjcnfbaaDoor
