/-
  The contract of the writer's operand, given node's.
  No condition but the lengths.
-/
import Derived.Test.YtpbhgebblpdmnaaDoorZ
import Derived.Test.YtpbhgebblpdmnaaDoorWy
namespace Go.Proofs.YtpbhgebblpdmnaaDoor
open Go.RowKit Wr Src
set_option linter.unusedVariables false
set_option maxRecDepth 100000
theorem sign_le (k : Int) : (signOf k).1 ≤ 3 := by
 unfold signOf
 repeat' split
 all_goals simp
theorem opSign_lv (k : Int) : (opSign k).2.1 = (signOf k).1 := by
 unfold opSign
 split
 ·
  rename_i h; rw [h]
 ·
  rfl
theorem opSign_tx {k : Int} (h : (signOf k).1 ≠ 0) : (opSign k).1 = (signOf k).2 := by unfold opSign; rw [if_neg h]
theorem sign_len (k : Int) : (opSign k).1.length ≤ 100 := by
 unfold opSign
 split
 ·
  simp
 ·
  unfold signOf
  repeat' split
  all_goals simp
section
variable {B h d dp s : Nat} {w : World} {v : Value} {x : Src.Wr}
set_option maxHeartbeats 4000000 in
theorem operand_walk (hB : B ≤ h) (hn : WNodeC B h d) (hs : WS h w v x dp) (ht : Tab B w) (hl : Lim s x) (hs3 : s ≤ 250) (hd : dp + d = 24) (n : Nd) (cs : List Value) (hv : NV w (fun j => j < h) n cs) (least : Nat) (hle : least ≤ 100) :
  Calls Tryd.prog 53 #[pt h, .agg cs.toArray, nv least] w fun en w' => en = .returned (.tuple #[]) ∧ WOut h w v (wOperand (wNode d) n least x) dp w' := by
 obtain ⟨nk, nt, nz, nl⟩ := n
 obtain ⟨A0, C0, ys0, hcs, hf, _⟩ := hv.form
 subst hcs
 obtain ⟨L0, hL0⟩ : ∃ L, L = nl.length := ⟨_, rfl⟩
 rw [← hL0] at hv ⊢
 clear hL0
 obtain ⟨wb, hwb⟩ : ∃ wb, wb = w.heap.size := ⟨_, rfl⟩
 have HWB := Lh hwb
 have HWb := Lh hwb.symm
 obtain ⟨w0, hw0⟩ : ∃ w0, w0 = w.alloc (.cells #[.int .i64 nk, .string ⟨nt.toArray⟩, .int .i64 nz, .slice A0 L0 C0] 25) := ⟨_, rfl⟩
 have l0 : Below w.heap.size w w0 := by rw [hw0]; exact (Below.refl _ _).alloc (Nat.le_refl _) _
 have Z0 := Lh (show Blk w0 wb 25 [iv nk, sv nt, iv nz, .slice A0 L0 C0] by rw [hw0, hwb]; exact Blk.new w _ _)
 have L0' := Lh l0
 have S0 := Lh (hs.below l0)
 have T0 := Lh (ht.below l0)
 have V0 := Lh ((WK.below (h := h) (v := v) l0).nv hs hv)
 have FB := Lh (show some wb ≠ v.ownBlock from hs.fresh (by omega))
 have HWh := Lh (show wb ≠ h by have := hs.hlt; omega)
 have LM := Lh hl
 have HWN := Lh hn
 have HDP := Lh hd
 have W0 := Lh hw0
 have HO := Lh (operationOf_any nk w0 T0.out)
 obtain ⟨st, hst⟩ : ∃ r, r = (opSign nk).1 := ⟨_, rfl⟩
 obtain ⟨lv, hlv⟩ : ∃ r, r = (opSign nk).2.1 := ⟨_, rfl⟩
 obtain ⟨kk, hkk⟩ : ∃ r, r = (opSign nk).2.2 := ⟨_, rfl⟩
 rw [← hst, ← hlv, ← hkk] at HO
 have HLV := Lh (hlv.trans (opSign_lv nk))
 have hlv3 : lv ≤ 3 := by rw [hlv, opSign_lv]; exact sign_le nk
 have c0 := Z0.out.cell 0
 simp only [List.getElem?_cons_zero, List.getElem?_cons_succ] at c0
 clear hs ht hl hn hd hwb hw0 l0 hv hst hlv hkk
 dsimp only [NC]
 go_enter Tryd.func53, Tryd.ntmps53
 go_upto_region 1 with fail
 rw [← W0.out, HWb.out]
 go_wp2_with fail
 refine HO.out.mono ?_
 rintro e w1 ⟨rfl, b1⟩
 have Z1 := Lh (Z0.out.below b1 Z0.out.lt)
 have L1 := Lh (below_step L0'.out b1)
 have V1 := Lh ((WK.below (h := h) (v := v) b1).nv S0.out V0.out)
 have S1 := Lh (S0.out.below b1)
 have T1 := Lh (T0.out.below b1)
 clear b1 c0 Z0 L0' V0 S0 T0 HO
 go_upto_region 2 with fail
 obtain ⟨w2, hw2⟩ : ∃ w2, w2 = w1.alloc (.cells #[sv st, nv lv, iv kk] 75) := ⟨_, rfl⟩
 have l2 : Below w1.heap.size w1 w2 := by rw [hw2]; exact (Below.refl _ _).alloc (Nat.le_refl _) _
 obtain ⟨nb, hnb⟩ : ∃ nb, nb = w1.heap.size := ⟨_, rfl⟩
 have X2 := Lh (show Blk w2 nb 75 [sv st, nv lv, iv kk] by rw [hw2, hnb]; exact Blk.new w1 _ _)
 have Z2 := Lh (Z1.out.below l2 Z1.out.lt)
 have L2 := Lh (below_step L1.out l2)
 have V2 := Lh ((WK.below (h := h) (v := v) l2).nv S1.out V1.out)
 have S2 := Lh (S1.out.below l2)
 have T2 := Lh (T1.out.below l2)
 change Code.wp _ _ _ _ (w1.alloc (.cells #[sv st, nv lv, iv kk] 75))
 rw [← hw2, ← hnb]
 clear l2 hw2 hnb Z1 L1 V1 S1 T1
 have x1 := X2.out.cell 1
 simp only [List.getElem?_cons_zero, List.getElem?_cons_succ] at x1
 have HNode := Lh (HWN.out w2 v x dp s _ _ T2.out S2.out LM.out (by omega) HDP.out V2.out)
 have hleI : (least : Int) ≤ 100 := by omega
 have hlvI : (lv : Int) ≤ 3 := by omega
 by_cases h0 : lv = 0
 ·
  have h0I : ((lv : Int) == 0) = true := by rw [h0]; rfl
  have HR := Lh (show wOperand (wNode d) (.mk nk nt nz nl) least x = wNode d (.mk nk nt nz nl) x from if_pos (Or.inl (HLV.out.symm.trans h0)))
  clear h0
  dsimp only [NC] at HNode
  go_wp2_with (first | (with_reducible refine wpList_load_cells rfl 25 4 size25 (.tmp 4) rfl ⟨wb, 0, none⟩ rfl [iv nk, sv nt, iv nz, .slice A0 L0 C0] rfl _ Tryd.underlying25 rfl Z2.out.at ?_))
  refine HNode.out.mono ?_
  rintro e w5 ⟨rfl, hout⟩
  have HOu := Lh hout
  clear hout x1
  go_wp2_with fail
  refine bodyPost_ret (v := .tuple #[]) (res_none rfl _ _) rfl ⟨rfl, ?_⟩
  rw [HR.out]
  obtain ⟨v', a1, a2⟩ := HOu.out
  exact ⟨v', a1, (WK.below L2.out).trans a2⟩
 ·
  have h0I : ((lv : Int) == 0) = false := by rw [beq_eq_false_iff_ne]; omega
  by_cases hg : least ≤ lv
  ·
   have hgI : (least : Int) ≤ (lv : Int) := by omega
   have HR := Lh (show wOperand (wNode d) (.mk nk nt nz nl) least x = wNode d (.mk nk nt nz nl) x from if_pos (Or.inr (by rw [HLV.out] at hg; exact hg)))
   clear h0 hg
   dsimp only [NC] at HNode
   go_wp2_with (first | (with_reducible refine wpList_load_cells rfl 25 4 size25 (.tmp 4) rfl ⟨wb, 0, none⟩ rfl [iv nk, sv nt, iv nz, .slice A0 L0 C0] rfl _ Tryd.underlying25 rfl Z2.out.at ?_))
   refine HNode.out.mono ?_
   rintro e w5 ⟨rfl, hout⟩
   have HOu := Lh hout
   clear hout x1
   go_wp2_with fail
   refine bodyPost_ret (v := .tuple #[]) (res_none rfl _ _) rfl ⟨rfl, ?_⟩
   rw [HR.out]
   obtain ⟨v', a1, a2⟩ := HOu.out
   exact ⟨v', a1, (WK.below L2.out).trans a2⟩
  ·
   have hgI : ¬ (least : Int) ≤ (lv : Int) := by omega
   have HR := Lh (show wOperand (wNode d) (.mk nk nt nz nl) least x = (wNode d (.mk nk nt nz nl) (x.put [40])).put [41] from if_neg (fun e => e.elim (fun e => h0 (HLV.out.trans e)) (fun e => hg (by rw [HLV.out]; exact e))))
   have HP := Lh (put_any S2.out (LM.out.mono (by omega)) [40] (by simp))
   clear h0 hg HNode
   go_wp2_with fail
   refine HP.out.mono ?_
   rintro e w3 ⟨rfl, v3, s3, q3⟩
   have V3 := Lh (q3.nv S2.out V2.out)
   have T3 := Lh (q3.tab S2.out T2.out hB)
   have Z3 := Lh (q3.blk Z2.out HWh.out FB.out)
   have Q3 := Lh ((WK.below L2.out).trans q3)
   have S3 := Lh s3
   have HNode := Lh (HWN.out w3 v3 _ dp (s + 1) _ _ T3.out S3.out (LM.out.put [40]) (by omega) HDP.out V3.out)
   clear s3 q3 x1
   dsimp only [NC] at HNode
   go_wp2_with (first | (with_reducible refine wpList_load_cells rfl 25 4 size25 (.tmp 4) rfl ⟨wb, 0, none⟩ rfl [iv nk, sv nt, iv nz, .slice A0 L0 C0] rfl _ Tryd.underlying25 rfl Z3.out.1.at ?_))
   refine HNode.out.mono ?_
   rintro e w5 ⟨rfl, v5, s5, q5⟩
   have S5 := Lh s5
   have Q5 := Lh (Q3.out.trans q5)
   have HP5 := Lh (put_any S5.out ((lim_node d _ _ _ (LM.out.put [40])).mono (by have := HDP.out; omega)) [41] (by simp))
   clear s5 q5
   go_wp2_with fail
   refine HP5.out.mono ?_
   rintro e w6 ⟨rfl, v6, s6, q6⟩
   have S6 := Lh s6
   have Q6 := Lh (Q5.out.trans q6)
   clear s6 q6
   go_wp2_with fail
   refine bodyPost_end (v := .tuple #[]) (res_none rfl _ _) rfl ⟨rfl, v6, ?_, Q6.out⟩
   rw [HR.out]
   exact S6.out
end
end Go.Proofs.YtpbhgebblpdmnaaDoor
