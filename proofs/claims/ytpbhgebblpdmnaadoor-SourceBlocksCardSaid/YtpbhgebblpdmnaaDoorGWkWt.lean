/-
  Contracts and words of several parts of the program (Wk, Wt), one after the other.
  Conditions: those that each says.
-/
import Derived.Test.YtpbhgebblpdmnaaDoorZ
import Derived.Test.YtpbhgebblpdmnaaDoorWv
import Derived.Lib.BufferRead
namespace Go.Proofs.YtpbhgebblpdmnaaDoor
open Go.RowKit Wr Src
set_option linter.unusedVariables false
set_option maxRecDepth 100000
section
variable {B h d dp s : Nat} {w : World} {v : Value} {x : Src.Wr}
theorem wNode_out {n : Nd} (hk : n.kind < 0 ∨ 37 ≤ n.kind) : wNode d n x = { x with bad := true } := by
 cases d with
 | zero => rfl
 | succ d => unfold wNode; rw [if_pos hk]
theorem wNode_stop {n : Nd} (hk : ¬ (n.kind < 0 ∨ 37 ≤ n.kind)) (hb : x.bad = true) : wNode (d + 1) n x = x := by unfold wNode; rw [if_neg hk, if_pos hb]
theorem wNode_op {n : Nd} (hk : ¬ (n.kind < 0 ∨ 37 ≤ n.kind)) (hb : x.bad = false) (ho : (signOf n.kind).1 ≠ 0) : wNode (d + 1) n x = wOp (wNode d) n.kids (signOf n.kind).1 (signOf n.kind).2 x := by
 unfold wNode wOp
 rw [if_neg hk, if_neg (by rw [hb]; simp), if_pos ho]
 generalize n.kids = l
 match l with
 | [] => rfl
 | [a] => rfl
 | [a, b] => rfl
 | a :: b :: c :: l => rfl
theorem wNode_shape {n : Nd} (hk : ¬ (n.kind < 0 ∨ 37 ≤ n.kind)) (hb : x.bad = false) (ho : (signOf n.kind).1 = 0) : wNode (d + 1) n x = wParts (wNode d) n (Src.shape n.kind.toNat).parts n.kids (if (Src.shape n.kind.toNat).word = [] then x else x.put (Src.shape n.kind.toNat).word) := by
 rw [wNode, if_neg hk, if_neg (by rw [hb]; simp), if_neg (by simp [ho])]
set_option maxHeartbeats 4000000 in
theorem wnode_step (hB : B ≤ h) (hn : ∀ d', d = d' + 1 → WNodeC B h d') : WNodeC B h d := by
 intro w v x dp s n cs ht hs hl hs3 hd hv
 obtain ⟨nk, nt, nz, nl⟩ := n
 have hvk := hv.kv
 obtain ⟨A0, C0, ys0, hcs, hf, _⟩ := hv.form
 subst hcs
 obtain ⟨L0, hL0⟩ : ∃ L, L = nl.length := ⟨_, rfl⟩
 obtain ⟨kv, e1, hf1, hkv⟩ := hvk
 have e2 : kv = .slice A0 nl.length C0 := by
  unfold NC at e1
  simp only [List.cons.injEq, and_true] at e1
  exact e1.2.2.2.symm
 subst e2
 dsimp only [Nd.kind, Nd.text, Nd.num, Nd.kids] at hf1 hkv
 rw [← hL0] at hv hkv ⊢
 have HL0 := Lh hL0
 clear hL0 e1
 obtain ⟨wb, hwb⟩ : ∃ wb, wb = w.heap.size := ⟨_, rfl⟩
 have HWB := Lh hwb
 have HWb := Lh hwb.symm
 obtain ⟨w0, hw0⟩ : ∃ w0, w0 = w.alloc (.cells #[.int .i64 nk, .string ⟨nt.toArray⟩, .int .i64 nz, .slice A0 L0 C0] 25) := ⟨_, rfl⟩
 have l0 : Below w.heap.size w w0 := by rw [hw0]; exact (Below.refl _ _).alloc (Nat.le_refl _) _
 have Z0 := Lh (show Blk w0 wb 25 [iv nk, sv nt, iv nz, .slice A0 L0 C0] by rw [hw0, hwb]; exact Blk.new w _ _)
 have L0' := Lh l0
 have S0 := Lh (hs.below l0)
 have T0 := Lh (ht.below l0)
 have K0 := Lh (hkv.below l0)
 have FB := Lh (show some wb ≠ v.ownBlock from hs.fresh (by omega))
 have HWh := Lh (show wb ≠ h by have := hs.hlt; omega)
 have LM := Lh hl
 have HWN := Lh hn
 have HFi := Lh hf1
 have W0 := Lh hw0
 have y0 := Z0.out.cell 0
 have c1 := S0.out.b.cell 1; have c2 := S0.out.b.cell 2; have f1 := S0.out.b.frozen 1; have f2 := S0.out.b.frozen 2
 simp only [g0, gs] at y0 c1 c2
 have HD := Lh hd
 have hdI : (dp : Int) ≤ 24 := by omega
 have q1 : IntKind.i64.wrap ((dp : Int) + 1) = (dp : Int) + 1 := IntWalk.i64_in _ (by omega)
 have q2 : IntKind.i64.wrap ((dp : Int) + 1 - 1) = (dp : Int) := by
  rw [show (dp : Int) + 1 - 1 = (dp : Int) by omega]
  exact IntWalk.i64_in _ (by omega)
 clear hs ht hl hn hwb hw0 l0 hv hf hkv hf1
 dsimp only [NC]
 by_cases hdp : dp = 24
 ·
  have hdpI : ((dp : Int) == 24) = true := by rw [hdp]; rfl
  have HR := Lh (show wNode d (.mk nk nt nz nl) x = { x with bad := true } by
   have : d = 0 := by omega
   rw [this]; rfl)
  clear hdp hd
  go_enter Tryd.func35, Tryd.ntmps35
  go_upto_region 1 with fail
  rw [HWb.out]
  change Code.wp _ _ _ _ (w.alloc (.cells #[.int .i64 nk, .string ⟨nt.toArray⟩, .int .i64 nz, .slice A0 L0 C0] 25))
  rw [← W0.out]
  go_wp2_with fail
  refine bodyPost_ret (v := .tuple #[]) (res_none rfl _ _) rfl ⟨rfl, v, ?_, (WK.below L0'.out).set 2 _⟩
  rw [HR.out]
  exact S0.out.setBad true
 ·
  have hdpI : ((dp : Int) == 24) = false := by rw [beq_eq_false_iff_ne]; omega
  obtain ⟨d', rfl⟩ : ∃ d', d = d' + 1 := ⟨d - 1, by omega⟩
  by_cases hk0 : nk < 0
  ·
   have HR := Lh (show wNode (d' + 1) (.mk nk nt nz nl) x = { x with bad := true } from wNode_out (Or.inl hk0))
   clear hdp hd
   go_enter Tryd.func35, Tryd.ntmps35
   go_upto_region 1 with fail
   rw [HWb.out]
   change Code.wp _ _ _ _ (w.alloc (.cells #[.int .i64 nk, .string ⟨nt.toArray⟩, .int .i64 nz, .slice A0 L0 C0] 25))
   rw [← W0.out]
   go_wp2_with fail
   refine bodyPost_ret (v := .tuple #[]) (res_none rfl _ _) rfl ⟨rfl, v, ?_, (WK.below L0'.out).set 2 _⟩
   rw [HR.out]
   exact S0.out.setBad true
  ·
   by_cases hk1 : 37 ≤ nk
   ·
    have HR := Lh (show wNode (d' + 1) (.mk nk nt nz nl) x = { x with bad := true } from wNode_out (Or.inr hk1))
    clear hdp hd
    go_enter Tryd.func35, Tryd.ntmps35
    go_upto_region 1 with fail
    rw [HWb.out]
    change Code.wp _ _ _ _ (w.alloc (.cells #[.int .i64 nk, .string ⟨nt.toArray⟩, .int .i64 nz, .slice A0 L0 C0] 25))
    rw [← W0.out]
    go_wp2_with fail
    refine bodyPost_ret (v := .tuple #[]) (res_none rfl _ _) rfl ⟨rfl, v, ?_, (WK.below L0'.out).set 2 _⟩
    rw [HR.out]
    exact S0.out.setBad true
   ·
    have hkn : ¬ ((Nd.mk nk nt nz nl).kind < 0 ∨ 37 ≤ (Nd.mk nk nt nz nl).kind) := by
     rintro (e | e)
     ·
      exact hk0 e
     ·
      exact hk1 e
    by_cases hb : x.bad = true
    ·
     have HR := Lh (wNode_stop (d := d') hkn hb)
     rw [hb] at c2
     clear hb hdp hd hkn
     go_enter Tryd.func35, Tryd.ntmps35
     go_upto_region 1 with fail
     rw [HWb.out]
     change Code.wp _ _ _ _ (w.alloc (.cells #[.int .i64 nk, .string ⟨nt.toArray⟩, .int .i64 nz, .slice A0 L0 C0] 25))
     rw [← W0.out]
     go_wp2_with fail
     refine bodyPost_ret (v := .tuple #[]) (res_none rfl _ _) rfl ⟨rfl, v, ?_, WK.below L0'.out⟩
     rw [HR.out]
     exact S0.out
    ·
     have hb' : x.bad = false := by simpa using hb
     rw [hb'] at c2
     obtain ⟨w1, hw1⟩ : ∃ w1, w1 = w0.setCell ⟨h, 1, none⟩ (.int .i64 ((dp : Int) + 1)) := ⟨_, rfl⟩
     have S1 := Lh (show WS h w1 v x (dp + 1) by rw [hw1]; exact S0.out.setDepth (dp + 1))
     have Q1 := Lh (show WK h w v w1 v by rw [hw1]; exact (WK.below L0'.out).set 1 _)
     have q01 := show WK h w0 v w1 v by rw [hw1]; exact (WK.refl h w0 v).set 1 _
     have T1 := Lh (q01.tab S0.out T0.out hB)
     have K1 := Lh (q01.kv S0.out K0.out)
     have Z1 := Lh (q01.blk Z0.out HWh.out FB.out).1
     have W1 := Lh hw1
     have LMo := Lh (LM.out.ok hb')
     have HN := Lh (HWN.out d' rfl)
     have HD' := Lh (show dp + 1 + d' = 24 by omega)
     have HO := Lh (operationOf_any nk w1 T1.out)
     obtain ⟨st, hst⟩ : ∃ r, r = (opSign nk).1 := ⟨_, rfl⟩
     obtain ⟨lv, hlv⟩ : ∃ r, r = (opSign nk).2.1 := ⟨_, rfl⟩
     obtain ⟨kk, hkk⟩ : ∃ r, r = (opSign nk).2.2 := ⟨_, rfl⟩
     rw [← hst, ← hlv, ← hkk] at HO
     have HLV := Lh (hlv.trans (opSign_lv nk))
     have hlv3 : lv ≤ 3 := by rw [hlv, opSign_lv]; exact sign_le nk
     have HST := Lh (show st.length ≤ 100 by rw [hst]; exact sign_len nk)
     have HSt := Lh hst
     have z0 := Z1.out.cell 0
     simp only [g0, gs] at z0
     have HKn := Lh hkn
     have HBf := Lh hb'
     have HK01 := Lh (And.intro hk0 hk1)
     clear hb hb' hdp hd hkn q01 hw1 hst hlv hkk
     go_enter Tryd.func35, Tryd.ntmps35
     go_upto_region 1 with fail
     rw [HWb.out]
     change Code.wp _ _ _ _ (w.alloc (.cells #[.int .i64 nk, .string ⟨nt.toArray⟩, .int .i64 nz, .slice A0 L0 C0] 25))
     rw [← W0.out]
     go_upto_region 5 with fail
     try simp only [q1]
     rw [← W1.out]
     clear y0 c1 c2 f1 f2 hk0 hk1
     go_wp2_with fail
     refine HO.out.mono ?_
     rintro e w2 ⟨rfl, b2⟩
     have Z2 := Lh (Z1.out.below b2 Z1.out.lt)
     have S2 := Lh (S1.out.below b2)
     have T2 := Lh (T1.out.below b2)
     have K2 := Lh (K1.out.below b2)
     have Q2 := Lh (Q1.out.trans (WK.below b2))
     clear b2 z0 HO S1 T1 K1 Q1 Z1
     go_upto_region 6 with fail
     obtain ⟨w4, hw4⟩ : ∃ w4, w4 = w2.alloc (.cells #[.string ⟨st.toArray⟩, .int .i64 (lv : Int), .int .i64 kk] 75) := ⟨_, rfl⟩
     have l2 : Below w2.heap.size w2 w4 := by rw [hw4]; exact (Below.refl _ _).alloc (Nat.le_refl _) _
     obtain ⟨nb, hnb⟩ : ∃ nb, nb = w2.heap.size := ⟨_, rfl⟩
     have X4 := Lh (show Blk w4 nb 75 [sv st, nv lv, iv kk] by rw [hw4, hnb]; exact Blk.new w2 _ _)
     have Z4 := Lh (Z2.out.below l2 Z2.out.lt)
     have S4 := Lh (S2.out.below l2)
     have T4 := Lh (T2.out.below l2)
     have K4 := Lh (K2.out.below l2)
     have Q4 := Lh (Q2.out.trans (WK.below l2))
     change Code.wp _ _ _ _ (w2.alloc (.cells #[.string ⟨st.toArray⟩, .int .i64 (lv : Int), .int .i64 kk] 75))
     rw [← hw4, ← hnb]
     clear l2 hw4 hnb Z2 S2 T2 K2 Q2
     have x1 := X4.out.cell 1
     simp only [g0, gs] at x1
     by_cases h0 : lv = 0
     ·
      have h0I : ¬ (0 : Int) < (lv : Int) := by omega
      obtain ⟨kd, hkd⟩ : ∃ kd : Nat, nk = (kd : Int) := ⟨nk.toNat, by have := HK01.out; omega⟩
      have HR := Lh (wNode_shape (d := d') HKn.out HBf.out (HLV.out.symm.trans h0))
      subst hkd
      have HC := Lh (shape_walk hB HN.out S4.out T4.out (LMo.out.mono (by omega)) HD'.out kd (by have := HK01.out; omega) nt nz nl HFi.out A0 L0 C0 HL0.out K4.out)
      clear h0
      go_wp2_with (first | (with_reducible refine wpList_load_cells rfl 25 4 size25 (.tmp 3) rfl ⟨wb, 0, none⟩ rfl [iv (kd : Int), sv nt, iv nz, .slice A0 L0 C0] rfl _ Tryd.underlying25 rfl Z4.out.at ?_))
      refine HC.out.mono ?_
      rintro e w5 ⟨rfl, v5, s5, q5⟩
      have S5 := Lh s5
      have Q5 := Lh (Q4.out.trans q5)
      have d1 := s5.b.cell 1; have g1 := s5.b.frozen 1
      simp only [g0, gs] at d1
      change w5.cell? ⟨h, 1, none⟩ = some (.int .i64 ((dp : Int) + 1)) at d1
      clear s5 q5 HC
      go_wp2_with fail
      have S6 := S5.out.setDepth dp
      refine bodyPost_end (v := .tuple #[]) (res_none rfl _ _) rfl ⟨rfl, v5, ?_, Q5.out.set 1 _⟩
      rw [HR.out]
      exact S6
     ·
      have h0I : (0 : Int) < (lv : Int) := by omega
      have HR := Lh (show wNode (d' + 1) (.mk nk nt nz nl) x = wOp (wNode d') nl lv st x by
       have ho : (signOf nk).1 ≠ 0 := fun e => h0 (HLV.out.trans e)
       rw [wNode_op HKn.out HBf.out ho, HSt.out, opSign_tx ho, HLV.out]
       rfl)
      have HC := Lh (operation_walk hB HN.out S4.out T4.out LMo.out HD'.out nk nt nz nl A0 C0 L0 HL0.out K4.out st lv kk (by have := HST.out; omega) hlv3)
      clear h0
      go_wp2_with (first
       | (with_reducible refine wpList_load_cells rfl 75 3 size75 (.tmp 4) rfl ⟨nb, 0, none⟩ rfl [sv st, nv lv, iv kk] rfl _ Tryd.underlying75 rfl X4.out.at ?_)
       | (with_reducible refine wpList_load_cells rfl 25 4 size25 (.tmp 3) rfl ⟨wb, 0, none⟩ rfl [iv nk, sv nt, iv nz, .slice A0 L0 C0] rfl _ Tryd.underlying25 rfl Z4.out.at ?_))
      refine HC.out.mono ?_
      rintro e w5 ⟨rfl, v5, s5, q5⟩
      have S5 := Lh s5
      have Q5 := Lh (Q4.out.trans q5)
      have d1 := s5.b.cell 1; have g1 := s5.b.frozen 1
      simp only [g0, gs] at d1
      change w5.cell? ⟨h, 1, none⟩ = some (.int .i64 ((dp : Int) + 1)) at d1
      clear s5 q5 HC
      go_wp2_with fail
      have S6 := S5.out.setDepth dp
      refine bodyPost_end (v := .tuple #[]) (res_none rfl _ _) rfl ⟨rfl, v5, ?_, Q5.out.set 1 _⟩
      rw [HR.out]
      exact S6
theorem wnode_all (hB : B ≤ h) : ∀ d, WNodeC B h d
 | 0 => wnode_step hB (fun d' e => by omega)
 | d + 1 => wnode_step hB (fun d' e => by
  obtain rfl : d = d' := by omega
  exact wnode_all hB d)
end
end Go.Proofs.YtpbhgebblpdmnaaDoor
namespace Go.Proofs.YtpbhgebblpdmnaaDoor
open Go.RowKit Wr Src
set_option linter.unusedVariables false
set_option maxRecDepth 100000
theorem bytes_text {w : World} {b : Nat} {A : Option Addr} {c n : Nat} {t : Str} (o : w.ownsRow b 5 1 (.slice A n c) n (B8 t)) (hn : n = t.length) : (convert 56 9 (.slice A n c)).run Tryd.prog w = .ok (.string ⟨t.toArray⟩) w := by
 subst hn
 cases A with
 | none =>
  have h0 : t = [] := by
   rcases o.2 with ⟨h1, h2⟩ | ⟨g, c', cur, h1, _⟩
   ·
    exact List.eq_nil_of_length_eq_zero h2
   ·
    cases h1
  subst h0
  exact Lib.run_convert_nil_bytes (P := Tryd.prog) w 56 9 5 c Tryd.underlying56 Tryd.underlying5 Tryd.underlying9
 | some a =>
  exact run_convert_bytes_back (P := Tryd.prog) w 56 9 5 a c t Tryd.underlying56 Tryd.underlying5 Tryd.underlying9 (fun j hj => by
   obtain ⟨g, cap, hv, _⟩ := o.form (by omega)
   injection hv with hv _ _
   injection hv with hv
   subst hv
   exact o.cells (g := g) rfl j _ (B8_get _ _ hj))
set_option maxHeartbeats 4000000 in
theorem write_any {B : Nat} {w : World} {P : Nat → Prop} (ht : Tab B w) (n : Nd) (cs : List Value) (hv : NV w P n cs) : Calls Tryd.prog 18 #[.agg cs.toArray] w fun en w' => en = .returned (.tuple #[sv (wNode 24 n ⟨[], false⟩).text, .bool (!(wNode 24 n ⟨[], false⟩).bad)]) ∧ Below w.heap.size w w' := by
 obtain ⟨X, hX⟩ : ∃ X, X = wNode 24 n ⟨[], false⟩ := ⟨_, rfl⟩
 rw [← hX]
 have HX := Lh hX
 obtain ⟨nk, nt, nz, nl⟩ := n
 obtain ⟨A0, C0, ys0, hcs, _⟩ := hv.form
 subst hcs
 have z1 := zero68
 obtain ⟨wb, hwb⟩ : ∃ wb, wb = w.heap.size := ⟨_, rfl⟩
 have HWB := Lh hwb
 have HWb := Lh hwb.symm
 obtain ⟨w1, hw1⟩ : ∃ w1, w1 = w.alloc (.cells #[.int .i64 nk, .string ⟨nt.toArray⟩, .int .i64 nz, .slice A0 nl.length C0] 25) := ⟨_, rfl⟩
 obtain ⟨w2, hw2⟩ : ∃ w2, w2 = w1.alloc (.cells #[.slice none 0 0, .int .i64 0, .bool false] 68) := ⟨_, rfl⟩
 have s1 : w1.heap.size = wb + 1 := by rw [hw1, hwb]; simp
 have l1 : Below w.heap.size w w1 := by rw [hw1]; exact (Below.refl _ _).alloc (Nat.le_refl _) _
 have l2 : Below w1.heap.size w1 w2 := by rw [hw2]; exact (Below.refl _ _).alloc (Nat.le_refl _) _
 have L2 := Lh (below_step l1 l2)
 obtain ⟨h, hh⟩ : ∃ h, h = wb + 1 := ⟨_, rfl⟩
 have S2 := Lh (show WS h w2 (.slice none 0 0) ⟨[], false⟩ 0 from ⟨by rw [hw2, hh, ← s1]; exact Blk.new w1 _ _, World.ownsRow_nil _ _ _ _⟩)
 have x1 : Blk w1 wb 25 [iv nk, sv nt, iv nz, .slice A0 nl.length C0] := by rw [hw1, hwb]; exact Blk.new w _ _
 have Z2 := Lh (x1.below l2 x1.lt)
 have T2 := Lh (ht.below L2.out)
 have V2 := Lh (NV.keep (P' := fun j => j < h) (fun k h1 h2 => ⟨L2.out.block k h2, by omega⟩) _ _ hv)
 have HBh := Lh (show B ≤ h by have := ht.hw; omega)
 have HN := Lh (wnode_all HBh.out 24 w2 (.slice none 0 0) ⟨[], false⟩ 0 0 _ _ T2.out S2.out ⟨fun _ => by simp, by simp⟩ (by omega) rfl V2.out)
 rw [← hX] at HN
 have W1 := Lh hw1; have W2 := Lh hw2; have S1 := Lh (s1.trans hh.symm)
 have HHw := Lh (show w.heap.size ≤ h by omega)
 have HS2 := Lh (show h < w2.heap.size from S2.out.hlt)
 clear ht hv hwb hw1 hw2 s1 l1 l2 x1 hX hh
 dsimp only [NC] at HN ⊢
 go_enter Tryd.func18, Tryd.ntmps18
 go_upto_region 1 with fail
 rw [HWb.out]
 change Code.wp _ _ _ _ (w.alloc (.cells #[.int .i64 nk, .string ⟨nt.toArray⟩, .int .i64 nz, .slice A0 nl.length C0] 25))
 rw [← W1.out]
 go_upto_region 2 with fail
 rw [S1.out]
 rw [← W2.out]
 go_wp2_with (first | (with_reducible refine wpList_load_cells rfl 25 4 size25 (.tmp 1) rfl ⟨wb, 0, none⟩ rfl [iv nk, sv nt, iv nz, .slice A0 nl.length C0] rfl _ Tryd.underlying25 rfl Z2.out.at ?_))
 refine HN.out.mono ?_
 rintro e w5 ⟨rfl, v5, s5, q5⟩
 obtain ⟨A5, c5, hv5, _⟩ := own_form s5.o
 subst hv5
 obtain ⟨nX, hnX⟩ : ∃ k, k = X.text.length := ⟨_, rfl⟩
 rw [← hnX] at s5 q5
 have HNX := Lh hnX
 have S5 := Lh s5
 have HBl : Hid (Below w.heap.size w (World.drew w5)) := Lh (by
  refine Below.drew (L2.out.trans (Kp.below q5.k (show w.heap.size ≤ w2.heap.size by have := HHw.out; have := HS2.out; omega) (fun k hk e => ?_)))
  rcases e with e | e
  ·
   have := HHw.out; omega
  ·
   cases e)
 clear s5 q5 hnX
 go_wp2_with fail
 refine wp_region_any (by kernel_rfl) ?_
 change wpAny _ _ _ _ _ _ _ (World.drew w5)
 have S5 := Lh (S5.out.below ((Below.refl _ _).drew))
 generalize World.drew w5 = wdr at S5 HBl ⊢
 have c0 := S5.out.b.cell 0; have c2 := S5.out.b.cell 2
 simp only [List.getElem?_cons_zero, List.getElem?_cons_succ] at c0 c2
 have hcv := bytes_text (by have := S5.out.o; rw [← HNX.out] at this; exact this) HNX.out
 refine tg 0 (.pointer (some ⟨h, 0, none⟩)) ?_
 refine tg 3 (.pointer (some ⟨h, 2, none⟩)) ?_
 refine rm [1, 4] (ac (fun K hK => ?_) (ac (fun K hK => ?_) AllReady.nil))
 ·
  go_simp
  try (refine hk hK ?_; clear hK K)
  refine rm [2, 4] (ac (fun K hK => ?_) (ac (fun K hK => ?_) AllReady.nil))
  ·
   go_simp
   try (refine hk hK ?_; clear hK K)
   refine tg 6 (sv X.text) ?_
   refine r1 4 (fun K hK => ?_)
   go_simp
   try (refine hk hK ?_; clear hK K)
   refine tg 5 (.bool (!X.bad)) ?_
   refine tg 7 (.bool (!X.bad)) ?_
   refine wpAny_done (by kernel_rfl) ?_ _
   try simp only [zp, zn, zu, zv, zw]
   go_wp2_with fail
   exact bodyPost_ret (v := .tuple #[sv X.text, .bool (!X.bad)]) (by simp [results]) rfl ⟨rfl, HBl.out⟩
  ·
   go_simp
   try (refine hk hK ?_; clear hK K)
   refine tg 5 (.bool (!X.bad)) ?_
   refine r1 2 (fun K hK => ?_)
   go_simp
   try (refine hk hK ?_; clear hK K)
   refine tg 6 (sv X.text) ?_
   refine tg 7 (.bool (!X.bad)) ?_
   refine wpAny_done (by kernel_rfl) ?_ _
   try simp only [zp, zn, zu, zv, zw]
   go_wp2_with fail
   exact bodyPost_ret (v := .tuple #[sv X.text, .bool (!X.bad)]) (by simp [results]) rfl ⟨rfl, HBl.out⟩
 ·
  go_simp
  try (refine hk hK ?_; clear hK K)
  refine tg 5 (.bool (!X.bad)) ?_
  refine r1 1 (fun K hK => ?_)
  go_simp
  try (refine hk hK ?_; clear hK K)
  refine r1 2 (fun K hK => ?_)
  go_simp
  try (refine hk hK ?_; clear hK K)
  refine tg 6 (sv X.text) ?_
  refine tg 7 (.bool (!X.bad)) ?_
  refine wpAny_done (by kernel_rfl) ?_ _
  try simp only [zp, zn, zu, zv, zw]
  go_wp2_with fail
  exact bodyPost_ret (v := .tuple #[sv X.text, .bool (!X.bad)]) (by simp [results]) rfl ⟨rfl, HBl.out⟩
end Go.Proofs.YtpbhgebblpdmnaaDoor
