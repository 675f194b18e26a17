/-
  The contract of the writer's operation, given node's.
  No condition but the lengths.
-/
import Derived.Test.YtpbhgebblpdmnaaDoorZ
import Derived.Test.YtpbhgebblpdmnaaDoorWo
namespace Go.Proofs.YtpbhgebblpdmnaaDoor
open Go.RowKit Wr Src
set_option linter.unusedVariables false
set_option maxRecDepth 100000
def wOp (f : Nd → Src.Wr → Src.Wr) (l : List Nd) (lv : Nat) (st : Str) (x : Src.Wr) : Src.Wr := match l with
 | [a, b] => wOperand f b (lv + 1) ((wOperand f a (if lv = 1 then 2 else lv) x).put st)
 | _ => { x with bad := true }
theorem wOp_bad {f : Nd → Src.Wr → Src.Wr} {l : List Nd} {lv : Nat} {st : Str} {x : Src.Wr} (h : l.length ≠ 2) : wOp f l lv st x = { x with bad := true } := by
 match l, h with
 | [], _ => rfl
 | [a], _ => rfl
 | [a, b], h => exact absurd rfl h
 | a :: b :: c :: l, _ => rfl
section
variable {B h d dp s : Nat} {w : World} {v : Value} {x : Src.Wr}
set_option maxHeartbeats 4000000 in
theorem operation_walk (hB : B ≤ h) (hn : WNodeC B h d) (hs : WS h w v x dp) (ht : Tab B w) (hl : Lim 0 x) (hd : dp + d = 24) (nk : Int) (nt : Str) (nz : Int) (nl : List Nd) (A0 : Option Addr) (C0 L0 : Nat) (hL : L0 = nl.length) (hk : KV w h (.slice A0 L0 C0) nl) (st : Str) (lv : Nat) (kk : Int) (hst : st.length ≤ 9000000000) (hlv : lv ≤ 3) :
  Calls Tryd.prog 41 #[pt h, .agg #[sv st, nv lv, iv kk], .agg #[iv nk, sv nt, iv nz, .slice A0 L0 C0]] w fun en w' => en = .returned (.tuple #[]) ∧ WOut h w v (wOp (wNode d) nl lv st x) dp w' := by
 obtain ⟨wb, hwb⟩ : ∃ wb, wb = w.heap.size := ⟨_, rfl⟩
 have HWB := Lh hwb
 have HWb := Lh hwb.symm
 obtain ⟨w1, hw1⟩ : ∃ w1, w1 = w.alloc (.cells #[.string ⟨st.toArray⟩, .int .i64 (lv : Int), .int .i64 kk] 75) := ⟨_, rfl⟩
 obtain ⟨w2, hw2⟩ : ∃ w2, w2 = w1.alloc (.cells #[.int .i64 nk, .string ⟨nt.toArray⟩, .int .i64 nz, .slice A0 L0 C0] 25) := ⟨_, rfl⟩
 have s1 : w1.heap.size = wb + 1 := by rw [hw1, hwb]; simp
 have l1 : Below w.heap.size w w1 := by rw [hw1]; exact (Below.refl _ _).alloc (Nat.le_refl _) _
 have l2 : Below w1.heap.size w1 w2 := by rw [hw2]; exact (Below.refl _ _).alloc (Nat.le_refl _) _
 have L2 := Lh (below_step l1 l2)
 have x1 : Blk w1 wb 75 [sv st, nv lv, iv kk] := by rw [hw1, hwb]; exact Blk.new w _ _
 have X2 := Lh (x1.below l2 x1.lt)
 have N2 := Lh (show Blk w2 (wb + 1) 25 [iv nk, sv nt, iv nz, .slice A0 L0 C0] by rw [hw2, ← s1]; exact Blk.new w1 _ _)
 have S2 := Lh (hs.below L2.out)
 have T2 := Lh (ht.below L2.out)
 have K2 := Lh (hk.below L2.out)
 have FB := Lh (show some wb ≠ v.ownBlock ∧ some (wb + 1) ≠ v.ownBlock from ⟨hs.fresh (by omega), hs.fresh (by omega)⟩)
 have HWh := Lh (show wb ≠ h ∧ wb + 1 ≠ h by have := hs.hlt; omega)
 have LM := Lh hl
 have HWN := Lh hn
 have HDP := Lh hd
 have W1 := Lh hw1; have W2 := Lh hw2; have S1 := Lh s1
 have HST := Lh hst; have HL := Lh hL
 have y3 := N2.out.cell 3
 have y1 := X2.out.cell 1
 have c2 := S2.out.b.cell 2; have f2 := S2.out.b.frozen 2
 simp only [g0, gs] at y1 y3 c2
 have hlvI : (lv : Int) ≤ 3 := by omega
 clear hs ht hl hn hd hwb hw1 hw2 s1 l1 l2 x1 hst hk hL
 by_cases h2 : L0 = 2
 ·
  subst h2
  obtain ⟨a, b, hab⟩ : ∃ a b, nl = [a, b] := by
   have := HL.out
   match nl, this with
   | [a, b], _ => exact ⟨a, b, rfl⟩
   | [], h => simp at h
   | [a], h => simp at h
   | a :: b :: c :: l, h => simp at h
  subst hab
  obtain ⟨ak, at', az, al⟩ := a
  obtain ⟨bk, bt, bz, bl⟩ := b
  obtain ⟨A', c', xs, hv, k1, k2, k3, k4, k5⟩ := K2.out
  injection hv with e1 e2 e3
  subst e1 e3
  obtain ⟨ca, cb, rfl, va, k6⟩ := k5.inv
  obtain ⟨cb', ce, rfl, vb, k7⟩ := k6.inv
  obtain ⟨A1, c1, ys1, rfl, _⟩ := va.form
  obtain ⟨A2, c2', ys2, rfl, _⟩ := vb.form
  obtain ⟨g, o, rfl, hgh, hcell⟩ := k4 (by simp [NC])
  have HGH := Lh hgh
  have VA := Lh va; have VB := Lh vb
  have CA2 := Lh (show ∀ j u, ([iv ak, sv at', iv az, .slice A1 al.length c1] : List Value)[j]? = some u → w2.cell? ((⟨g, o, none⟩ : Addr).add j) = some u from fun j u hu => by
   rw [Addr.add_lit]
   refine hcell j u ?_
   have hj : j < 4 := (List.getElem?_eq_some_iff.1 hu).1
   rw [List.getElem?_append_left (by rw [va.len]; exact hj)]
   exact hu)
  have CB2 := Lh (show ∀ j u, ([iv bk, sv bt, iv bz, .slice A2 bl.length c2'] : List Value)[j]? = some u → w2.cell? ((⟨g, o + 4, none⟩ : Addr).add j) = some u from fun j u hu => by
   rw [Addr.add_lit, Nat.add_assoc]
   refine hcell (4 + j) u ?_
   have hj : j < 4 := (List.getElem?_eq_some_iff.1 hu).1
   rw [List.getElem?_append_right (by rw [va.len]; omega), va.len, show 4 + j - 4 = j by omega, List.getElem?_append_left (by rw [vb.len]; exact hj)]
   exact hu)
  have q1 : IntKind.i64.wrap ((lv : Int) + 1) = (lv : Int) + 1 := IntWalk.i64_in _ (by omega)
  clear k1 k2 k3 k4 k5 k6 k7 va vb hgh hcell c2 f2 HL K2
  by_cases h1 : lv = 1
  ·
   have h1I : ((lv : Int) == 1) = true := by rw [h1]; rfl
   have hif : (if lv = 1 then 2 else lv) = lv + 1 := by rw [if_pos h1, h1]
   clear h1
   go_enter Tryd.func41, Tryd.ntmps41
   go_upto_region 1 with fail
   rw [HWb.out]
   change Code.wp _ _ _ _ ((w.alloc (.cells #[.string ⟨st.toArray⟩, .int .i64 (lv : Int), .int .i64 kk] 75)).alloc (.cells #[.int .i64 nk, .string ⟨nt.toArray⟩, .int .i64 nz, .slice (some ⟨g, o, none⟩) 2 C0] 25))
   rw [← W1.out, ← W2.out]
   have HR := Lh (show wOp (wNode d) [.mk ak at' az al, .mk bk bt bz bl] lv st x = wOperand (wNode d) (.mk bk bt bz bl) (lv + 1) ((wOperand (wNode d) (.mk ak at' az al) (lv + 1) x).put st) by unfold wOp; dsimp only; rw [hif])
   have HA := Lh (operand_walk hB HWN.out S2.out T2.out LM.out (by omega) HDP.out (.mk ak at' az al) _ VA.out (lv + 1) (by omega))
   clear hif
   dsimp only [NC] at HA
   rw [show nv (lv + 1) = .int .i64 ((lv : Int) + 1) from rfl] at HA
   go_wp2_with (first | (with_reducible refine wpList_load_cells rfl 25 4 size25 (.tmp 23) rfl ⟨g, o, none⟩ rfl [iv ak, sv at', iv az, .slice A1 al.length c1] rfl _ Tryd.underlying25 rfl CA2.out ?_))
   refine HA.out.mono ?_
   rintro e w3 ⟨rfl, v3, s3, q3⟩
   have L3 := Lh (lim_operand (lim_node d) (.mk ak at' az al) (lv + 1) _ _ LM.out)
   generalize wOperand (wNode d) (.mk ak at' az al) (lv + 1) x = x3 at HR L3 s3
   have S3 := Lh s3
   have T3 := Lh (q3.tab S2.out T2.out hB)
   have VB3 := Lh (q3.nv S2.out VB.out)
   have CB3 := Lh (show ∀ j u, ([iv bk, sv bt, iv bz, .slice A2 bl.length c2'] : List Value)[j]? = some u → w3.cell? ((⟨g, o + 4, none⟩ : Addr).add j) = some u from fun j u hu => by
    have hcc := CB2.out j u hu
    rw [Addr.add_lit] at hcc ⊢
    refine (World.cell?_of_block (a := ⟨g, o + 4 + j, none⟩) (q3.k.block g (Nat.lt_of_lt_of_le HGH.out (Nat.le_of_lt S2.out.hlt)) ?_)).trans hcc
    rintro (e | e)
    ·
     have := HGH.out; omega
    ·
     have := (S2.out.olt e).1; have := HGH.out; omega)
   have N3' := Lh (q3.blk N2.out HWh.out.2 FB.out.2)
   have X3' := Lh (q3.blk X2.out HWh.out.1 FB.out.1)
   have N3 := Lh N3'.out.1; have X3 := Lh X3'.out.1
   have F3 := Lh (show some wb ≠ v3.ownBlock ∧ some (wb + 1) ≠ v3.ownBlock from ⟨X3'.out.2, N3'.out.2⟩)
   have Q3 := Lh ((WK.below (h := h) (v := v) L2.out).trans q3)
   have HP := Lh (put_any S3.out (L3.out.mono (by have := HDP.out; omega)) st HST.out)
   have z0 := X3.out.cell 0
   simp only [g0, gs] at z0
   clear s3 q3 y1 y3 HA N3' X3' VA CA2
   go_wp2_with fail
   refine HP.out.mono ?_
   rintro e w4 ⟨rfl, v4, s4, q4⟩
   have L4 := Lh (L3.out.put st)
   have CB4 := Lh (show ∀ j u, ([iv bk, sv bt, iv bz, .slice A2 bl.length c2'] : List Value)[j]? = some u → w4.cell? ((⟨g, o + 4, none⟩ : Addr).add j) = some u from fun j u hu => by
    have hcc := CB3.out j u hu
    rw [Addr.add_lit] at hcc ⊢
    refine (World.cell?_of_block (a := ⟨g, o + 4 + j, none⟩) (q4.k.block g (Nat.lt_of_lt_of_le HGH.out (Nat.le_of_lt S3.out.hlt)) ?_)).trans hcc
    rintro (e | e)
    ·
     have := HGH.out; omega
    ·
     have := (S3.out.olt e).1; have := HGH.out; omega)
   have T4 := Lh (q4.tab S3.out T3.out hB)
   have VB4 := Lh (q4.nv S3.out VB3.out)
   have N4 := Lh (q4.blk N3.out HWh.out.2 F3.out.2).1
   have X4 := Lh (q4.blk X3.out HWh.out.1 F3.out.1).1
   have S4 := Lh s4
   have Q4 := Lh (Q3.out.trans q4)
   clear s4 q4 z0 HP
   go_wp2_with fail
   refine wp_region_any (by kernel_rfl) ?_
   change wpAny _ _ _ _ _ _ _ (World.drew w4)
   have S4 := Lh (S4.out.below ((Below.refl _ _).drew))
   have T4 := Lh (T4.out.below ((Below.refl _ _).drew))
   have VB4 := Lh (NV.keep (P := fun j => j < h) (P' := fun j => j < h) (w := w4) (w' := World.drew w4) (fun k h1 h2 => ⟨rfl, h1⟩) _ _ VB4.out)
   have CB4 := Lh (show ∀ j u, ([iv bk, sv bt, iv bz, .slice A2 bl.length c2'] : List Value)[j]? = some u → (World.drew w4).cell? ((⟨g, o + 4, none⟩ : Addr).add j) = some u from CB4.out)
   have Q4 := Lh (Q4.out.trans (WK.below ((Below.refl _ _).drew)))
   have N4 := Lh (N4.out.drew); have X4 := Lh (X4.out.drew)
   generalize World.drew w4 = wdr at S4 T4 VB4 CB4 Q4 N4 X4 ⊢
   have HBc := Lh (operand_walk hB HWN.out S4.out T4.out L4.out (by have := HDP.out; omega) HDP.out (.mk bk bt bz bl) _ VB4.out (lv + 1) (by omega))
   dsimp only [NC] at HBc
   rw [show nv (lv + 1) = .int .i64 ((lv : Int) + 1) from rfl] at HBc
   refine tg 0 (pt h) ?_
   refine tg 1 (.pointer (some ⟨wb + 1, 3, none⟩)) ?_
   refine tg 5 (.pointer (some ⟨wb, 1, none⟩)) ?_
   refine rm [2, 6] (ac (fun K hK => ?_) (ac (fun K hK => ?_) AllReady.nil))
   ·
    have y3 := N4.out.cell 3
    simp only [g0, gs] at y3
    go_simp
    clear y3
    try (refine hk hK ?_; clear hK K)
    refine tg 3 (.pointer (some ⟨g, o + 4, none⟩)) ?_
    refine rm [4, 6] (ac (fun K hK => ?_) (ac (fun K hK => ?_) AllReady.nil))
    ·
     refine wp_load_at 25 (.tmp 34) rfl ⟨g, o + 4, none⟩ rfl [iv bk, sv bt, iv bz, .slice A2 bl.length c2'] _ CB4.out Tryd.underlying25 rfl size25 (hK _ _ ?_)
     clear hK K
     try simp only [zp, zn, zu, zv, zw]
     refine r1 6 (fun K hK => ?_)
     have y1 := X4.out.cell 1
     simp only [g0, gs] at y1
     go_simp
     clear y1
     try (refine hk hK ?_; clear hK K)
     refine tg 7 (.int .i64 ((lv : Int) + 1)) ?_
     refine r1 8 (fun K hK => ?_)
     go_simp
     refine HBc.out.mono ?_
     rintro e w5 ⟨rfl, v5, s5, q5⟩
     have S5 := Lh s5
     have Q5 := Lh (Q4.out.trans q5)
     clear s5 q5
     go_wp2_with fail
     try (refine hk hK ?_; clear hK K)
     refine wpAny_done (by kernel_rfl) ?_ _
     try simp only [zp, zn, zu, zv, zw]
     refine bodyPost_end (v := .tuple #[]) (res_none rfl _ _) rfl ⟨rfl, v5, ?_, Q5.out⟩
     rw [HR.out]
     exact S5.out
    ·
     have y1 := X4.out.cell 1
     simp only [g0, gs] at y1
     go_simp
     clear y1
     try (refine hk hK ?_; clear hK K)
     refine tg 7 (.int .i64 ((lv : Int) + 1)) ?_
     refine r1 4 (fun K hK => ?_)
     refine wp_load_at 25 (.tmp 34) rfl ⟨g, o + 4, none⟩ rfl [iv bk, sv bt, iv bz, .slice A2 bl.length c2'] _ CB4.out Tryd.underlying25 rfl size25 (hK _ _ ?_)
     clear hK K
     try simp only [zp, zn, zu, zv, zw]
     refine r1 8 (fun K hK => ?_)
     go_simp
     refine HBc.out.mono ?_
     rintro e w5 ⟨rfl, v5, s5, q5⟩
     have S5 := Lh s5
     have Q5 := Lh (Q4.out.trans q5)
     clear s5 q5
     go_wp2_with fail
     try (refine hk hK ?_; clear hK K)
     refine wpAny_done (by kernel_rfl) ?_ _
     try simp only [zp, zn, zu, zv, zw]
     refine bodyPost_end (v := .tuple #[]) (res_none rfl _ _) rfl ⟨rfl, v5, ?_, Q5.out⟩
     rw [HR.out]
     exact S5.out
   ·
    have y1 := X4.out.cell 1
    simp only [g0, gs] at y1
    go_simp
    clear y1
    try (refine hk hK ?_; clear hK K)
    refine tg 7 (.int .i64 ((lv : Int) + 1)) ?_
    refine r1 2 (fun K hK => ?_)
    have y3 := N4.out.cell 3
    simp only [g0, gs] at y3
    go_simp
    clear y3
    try (refine hk hK ?_; clear hK K)
    refine tg 3 (.pointer (some ⟨g, o + 4, none⟩)) ?_
    refine r1 4 (fun K hK => ?_)
    refine wp_load_at 25 (.tmp 34) rfl ⟨g, o + 4, none⟩ rfl [iv bk, sv bt, iv bz, .slice A2 bl.length c2'] _ CB4.out Tryd.underlying25 rfl size25 (hK _ _ ?_)
    clear hK K
    try simp only [zp, zn, zu, zv, zw]
    refine r1 8 (fun K hK => ?_)
    go_simp
    refine HBc.out.mono ?_
    rintro e w5 ⟨rfl, v5, s5, q5⟩
    have S5 := Lh s5
    have Q5 := Lh (Q4.out.trans q5)
    clear s5 q5
    go_wp2_with fail
    try (refine hk hK ?_; clear hK K)
    refine wpAny_done (by kernel_rfl) ?_ _
    try simp only [zp, zn, zu, zv, zw]
    refine bodyPost_end (v := .tuple #[]) (res_none rfl _ _) rfl ⟨rfl, v5, ?_, Q5.out⟩
    rw [HR.out]
    exact S5.out
  ·
   have h1I : ((lv : Int) == 1) = false := by rw [beq_eq_false_iff_ne]; omega
   have hif : (if lv = 1 then 2 else lv) = lv := if_neg h1
   clear h1
   go_enter Tryd.func41, Tryd.ntmps41
   go_upto_region 1 with fail
   rw [HWb.out]
   change Code.wp _ _ _ _ ((w.alloc (.cells #[.string ⟨st.toArray⟩, .int .i64 (lv : Int), .int .i64 kk] 75)).alloc (.cells #[.int .i64 nk, .string ⟨nt.toArray⟩, .int .i64 nz, .slice (some ⟨g, o, none⟩) 2 C0] 25))
   rw [← W1.out, ← W2.out]
   have HR := Lh (show wOp (wNode d) [.mk ak at' az al, .mk bk bt bz bl] lv st x = wOperand (wNode d) (.mk bk bt bz bl) (lv + 1) ((wOperand (wNode d) (.mk ak at' az al) (lv) x).put st) by unfold wOp; dsimp only; rw [hif])
   have HA := Lh (operand_walk hB HWN.out S2.out T2.out LM.out (by omega) HDP.out (.mk ak at' az al) _ VA.out (lv) (by omega))
   clear hif
   dsimp only [NC] at HA
   go_wp2_with (first | (with_reducible refine wpList_load_cells rfl 25 4 size25 (.tmp 23) rfl ⟨g, o, none⟩ rfl [iv ak, sv at', iv az, .slice A1 al.length c1] rfl _ Tryd.underlying25 rfl CA2.out ?_))
   refine HA.out.mono ?_
   rintro e w3 ⟨rfl, v3, s3, q3⟩
   have L3 := Lh (lim_operand (lim_node d) (.mk ak at' az al) (lv) _ _ LM.out)
   generalize wOperand (wNode d) (.mk ak at' az al) (lv) x = x3 at HR L3 s3
   have S3 := Lh s3
   have T3 := Lh (q3.tab S2.out T2.out hB)
   have VB3 := Lh (q3.nv S2.out VB.out)
   have CB3 := Lh (show ∀ j u, ([iv bk, sv bt, iv bz, .slice A2 bl.length c2'] : List Value)[j]? = some u → w3.cell? ((⟨g, o + 4, none⟩ : Addr).add j) = some u from fun j u hu => by
    have hcc := CB2.out j u hu
    rw [Addr.add_lit] at hcc ⊢
    refine (World.cell?_of_block (a := ⟨g, o + 4 + j, none⟩) (q3.k.block g (Nat.lt_of_lt_of_le HGH.out (Nat.le_of_lt S2.out.hlt)) ?_)).trans hcc
    rintro (e | e)
    ·
     have := HGH.out; omega
    ·
     have := (S2.out.olt e).1; have := HGH.out; omega)
   have N3' := Lh (q3.blk N2.out HWh.out.2 FB.out.2)
   have X3' := Lh (q3.blk X2.out HWh.out.1 FB.out.1)
   have N3 := Lh N3'.out.1; have X3 := Lh X3'.out.1
   have F3 := Lh (show some wb ≠ v3.ownBlock ∧ some (wb + 1) ≠ v3.ownBlock from ⟨X3'.out.2, N3'.out.2⟩)
   have Q3 := Lh ((WK.below (h := h) (v := v) L2.out).trans q3)
   have HP := Lh (put_any S3.out (L3.out.mono (by have := HDP.out; omega)) st HST.out)
   have z0 := X3.out.cell 0
   simp only [g0, gs] at z0
   clear s3 q3 y1 y3 HA N3' X3' VA CA2
   go_wp2_with fail
   refine HP.out.mono ?_
   rintro e w4 ⟨rfl, v4, s4, q4⟩
   have L4 := Lh (L3.out.put st)
   have CB4 := Lh (show ∀ j u, ([iv bk, sv bt, iv bz, .slice A2 bl.length c2'] : List Value)[j]? = some u → w4.cell? ((⟨g, o + 4, none⟩ : Addr).add j) = some u from fun j u hu => by
    have hcc := CB3.out j u hu
    rw [Addr.add_lit] at hcc ⊢
    refine (World.cell?_of_block (a := ⟨g, o + 4 + j, none⟩) (q4.k.block g (Nat.lt_of_lt_of_le HGH.out (Nat.le_of_lt S3.out.hlt)) ?_)).trans hcc
    rintro (e | e)
    ·
     have := HGH.out; omega
    ·
     have := (S3.out.olt e).1; have := HGH.out; omega)
   have T4 := Lh (q4.tab S3.out T3.out hB)
   have VB4 := Lh (q4.nv S3.out VB3.out)
   have N4 := Lh (q4.blk N3.out HWh.out.2 F3.out.2).1
   have X4 := Lh (q4.blk X3.out HWh.out.1 F3.out.1).1
   have S4 := Lh s4
   have Q4 := Lh (Q3.out.trans q4)
   clear s4 q4 z0 HP
   go_wp2_with fail
   refine wp_region_any (by kernel_rfl) ?_
   change wpAny _ _ _ _ _ _ _ (World.drew w4)
   have S4 := Lh (S4.out.below ((Below.refl _ _).drew))
   have T4 := Lh (T4.out.below ((Below.refl _ _).drew))
   have VB4 := Lh (NV.keep (P := fun j => j < h) (P' := fun j => j < h) (w := w4) (w' := World.drew w4) (fun k h1 h2 => ⟨rfl, h1⟩) _ _ VB4.out)
   have CB4 := Lh (show ∀ j u, ([iv bk, sv bt, iv bz, .slice A2 bl.length c2'] : List Value)[j]? = some u → (World.drew w4).cell? ((⟨g, o + 4, none⟩ : Addr).add j) = some u from CB4.out)
   have Q4 := Lh (Q4.out.trans (WK.below ((Below.refl _ _).drew)))
   have N4 := Lh (N4.out.drew); have X4 := Lh (X4.out.drew)
   generalize World.drew w4 = wdr at S4 T4 VB4 CB4 Q4 N4 X4 ⊢
   have HBc := Lh (operand_walk hB HWN.out S4.out T4.out L4.out (by have := HDP.out; omega) HDP.out (.mk bk bt bz bl) _ VB4.out (lv + 1) (by omega))
   dsimp only [NC] at HBc
   rw [show nv (lv + 1) = .int .i64 ((lv : Int) + 1) from rfl] at HBc
   refine tg 0 (pt h) ?_
   refine tg 1 (.pointer (some ⟨wb + 1, 3, none⟩)) ?_
   refine tg 5 (.pointer (some ⟨wb, 1, none⟩)) ?_
   refine rm [2, 6] (ac (fun K hK => ?_) (ac (fun K hK => ?_) AllReady.nil))
   ·
    have y3 := N4.out.cell 3
    simp only [g0, gs] at y3
    go_simp
    clear y3
    try (refine hk hK ?_; clear hK K)
    refine tg 3 (.pointer (some ⟨g, o + 4, none⟩)) ?_
    refine rm [4, 6] (ac (fun K hK => ?_) (ac (fun K hK => ?_) AllReady.nil))
    ·
     refine wp_load_at 25 (.tmp 34) rfl ⟨g, o + 4, none⟩ rfl [iv bk, sv bt, iv bz, .slice A2 bl.length c2'] _ CB4.out Tryd.underlying25 rfl size25 (hK _ _ ?_)
     clear hK K
     try simp only [zp, zn, zu, zv, zw]
     refine r1 6 (fun K hK => ?_)
     have y1 := X4.out.cell 1
     simp only [g0, gs] at y1
     go_simp
     clear y1
     try (refine hk hK ?_; clear hK K)
     refine tg 7 (.int .i64 ((lv : Int) + 1)) ?_
     refine r1 8 (fun K hK => ?_)
     go_simp
     refine HBc.out.mono ?_
     rintro e w5 ⟨rfl, v5, s5, q5⟩
     have S5 := Lh s5
     have Q5 := Lh (Q4.out.trans q5)
     clear s5 q5
     go_wp2_with fail
     try (refine hk hK ?_; clear hK K)
     refine wpAny_done (by kernel_rfl) ?_ _
     try simp only [zp, zn, zu, zv, zw]
     refine bodyPost_end (v := .tuple #[]) (res_none rfl _ _) rfl ⟨rfl, v5, ?_, Q5.out⟩
     rw [HR.out]
     exact S5.out
    ·
     have y1 := X4.out.cell 1
     simp only [g0, gs] at y1
     go_simp
     clear y1
     try (refine hk hK ?_; clear hK K)
     refine tg 7 (.int .i64 ((lv : Int) + 1)) ?_
     refine r1 4 (fun K hK => ?_)
     refine wp_load_at 25 (.tmp 34) rfl ⟨g, o + 4, none⟩ rfl [iv bk, sv bt, iv bz, .slice A2 bl.length c2'] _ CB4.out Tryd.underlying25 rfl size25 (hK _ _ ?_)
     clear hK K
     try simp only [zp, zn, zu, zv, zw]
     refine r1 8 (fun K hK => ?_)
     go_simp
     refine HBc.out.mono ?_
     rintro e w5 ⟨rfl, v5, s5, q5⟩
     have S5 := Lh s5
     have Q5 := Lh (Q4.out.trans q5)
     clear s5 q5
     go_wp2_with fail
     try (refine hk hK ?_; clear hK K)
     refine wpAny_done (by kernel_rfl) ?_ _
     try simp only [zp, zn, zu, zv, zw]
     refine bodyPost_end (v := .tuple #[]) (res_none rfl _ _) rfl ⟨rfl, v5, ?_, Q5.out⟩
     rw [HR.out]
     exact S5.out
   ·
    have y1 := X4.out.cell 1
    simp only [g0, gs] at y1
    go_simp
    clear y1
    try (refine hk hK ?_; clear hK K)
    refine tg 7 (.int .i64 ((lv : Int) + 1)) ?_
    refine r1 2 (fun K hK => ?_)
    have y3 := N4.out.cell 3
    simp only [g0, gs] at y3
    go_simp
    clear y3
    try (refine hk hK ?_; clear hK K)
    refine tg 3 (.pointer (some ⟨g, o + 4, none⟩)) ?_
    refine r1 4 (fun K hK => ?_)
    refine wp_load_at 25 (.tmp 34) rfl ⟨g, o + 4, none⟩ rfl [iv bk, sv bt, iv bz, .slice A2 bl.length c2'] _ CB4.out Tryd.underlying25 rfl size25 (hK _ _ ?_)
    clear hK K
    try simp only [zp, zn, zu, zv, zw]
    refine r1 8 (fun K hK => ?_)
    go_simp
    refine HBc.out.mono ?_
    rintro e w5 ⟨rfl, v5, s5, q5⟩
    have S5 := Lh s5
    have Q5 := Lh (Q4.out.trans q5)
    clear s5 q5
    go_wp2_with fail
    try (refine hk hK ?_; clear hK K)
    refine wpAny_done (by kernel_rfl) ?_ _
    try simp only [zp, zn, zu, zv, zw]
    refine bodyPost_end (v := .tuple #[]) (res_none rfl _ _) rfl ⟨rfl, v5, ?_, Q5.out⟩
    rw [HR.out]
    exact S5.out
 ·
  have HR := Lh (show wOp (wNode d) nl lv st x = { x with bad := true } from wOp_bad (by rw [← HL.out]; exact h2))
  have h2I : ((L0 : Int) == 2) = false := by rw [beq_eq_false_iff_ne]; omega
  have h2J : ((L0 : Int) != 2) = true := by rw [bne, h2I]; rfl
  clear h2
  go_enter Tryd.func41, Tryd.ntmps41
  go_upto_region 1 with fail
  rw [HWb.out]
  change Code.wp _ _ _ _ ((w.alloc (.cells #[.string ⟨st.toArray⟩, .int .i64 (lv : Int), .int .i64 kk] 75)).alloc (.cells #[.int .i64 nk, .string ⟨nt.toArray⟩, .int .i64 nz, .slice A0 L0 C0] 25))
  rw [← W1.out, ← W2.out]
  clear y1
  go_wp2_with fail
  refine bodyPost_ret (v := .tuple #[]) (res_none rfl _ _) rfl ⟨rfl, v, ?_, (WK.below L2.out).set 2 _⟩
  rw [HR.out]
  exact S2.out.setBad true
end
end Go.Proofs.YtpbhgebblpdmnaaDoor
