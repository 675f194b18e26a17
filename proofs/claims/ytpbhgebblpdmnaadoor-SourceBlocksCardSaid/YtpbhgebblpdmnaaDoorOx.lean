/-
  The contracts of operations, expression, sum and product, given that of the operand.
  No condition but the lengths.
-/
import Derived.Test.YtpbhgebblpdmnaaDoorZ
import Derived.Test.YtpbhgebblpdmnaaDoorNw
import Derived.Deep.LoopGhost
namespace Go.Proofs.YtpbhgebblpdmnaaDoor
open Go.RowKit Wr Src
set_option linter.unusedVariables false
set_option maxRecDepth 100000
theorem wpList_bs {P : Program} {ops : Array Oper} {rest : List Oper} {o : Oper} {a : Act} {w w' : World} {Q : Exit → Act → World → Prop} (hgd : o.guard = none) {T : TypeId} {n : Nat} {xs : Array (Nat × Operand)} (vs : Array (Nat × Value)) {v : Value} (ho : o.op = .buildSlice T n xs) (hv : (xs.map fun (i, x) => (i, a.eval x)) = vs) (hr : (Instr.buildSlice T n vs).run P w = .ok v w')
  (h : wpList P ops Q rest (a.put o.dst v) w') : wpList P ops Q (o :: rest) a w := wpList_plain hgd fun _ hK => wp_bs ho hv hr (hK _ _ h)
theorem build23_2 (k1 z1 k2 z2 : Int) (t1 t2 : Str) (v1 v2 : Value) (W : World) : (Instr.buildSlice 23 2 #[(0, .agg #[iv k1, sv t1, iv z1, v1]), (1, .agg #[iv k2, sv t2, iv z2, v2])]).run Tryd.prog W = .ok (.slice (some ⟨W.heap.size, 0, none⟩) 2 2) (W.alloc (.cells #[iv k1, sv t1, iv z1, v1, iv k2, sv t2, iv z2, v2] 25)) := by kernel_rfl
theorem op_sign {t : Str} (h : (opOf t).1 ≠ 0) : kdOf t = (opOf t).2 ∧ 26 ≤ (opOf t).2 ∧ (opOf t).2 ≤ 31 ∧ t ≠ [] := by
 unfold opOf at h
 split at h
 ·
  rename_i e; subst e; decide
 ·
  split at h
  ·
   rename_i e; subst e; decide
  ·
   split at h
   ·
    rename_i e; subst e; decide
   ·
    split at h
    ·
     rename_i e; subst e; decide
    ·
     split at h
     ·
      rename_i e; subst e; decide
     ·
      split at h
      ·
       rename_i e; subst e; decide
      ·
       exact absurd rfl h
section
variable {B : Nat} {w : World} {g : Nat} {T : Str} {E : Nat} {s : St}
set_option maxHeartbeats 8000000 in
theorem operations_walk (h : RS B w g T E s) (lv : Nat) (hlv : 1 ≤ lv ∧ lv ≤ 3) (f : FuncId) (hcf : ∀ args W, (callFunc f args).run Tryd.prog W = .ok (.enter f args) W)
  (HC : Hid (∀ W s1, RS B W g T E s1 → mu s1 ≤ mu s → Calls Tryd.prog f #[pt g] W (RdOut B W g T E (fun n s' => Ev (fun k => ops k (lv + 1) s1) (n, s') ∧ mu s' ≤ mu s1)))) :
  Calls Tryd.prog 71 #[pt g, nv lv, .func (.func f) #[pt g] #[]] w (RdOut B w g T E (fun n s' => Ev (fun k => ops k lv s) (n, s') ∧ mu s' ≤ mu s)) := by
 have z1 := zero25
 obtain ⟨wb, hwb⟩ : ∃ wb, wb = w.heap.size := ⟨_, rfl⟩
 have HWB := Lh hwb
 have HWb := Lh hwb.symm
 have hG' : Hid (g < wb) := Lh (by rw [hwb]; exact h.lt)
 obtain ⟨w0, hw0⟩ : ∃ w0, w0 = w.alloc (.cells #[.int .i64 0, .string ⟨#[]⟩, .int .i64 0, .slice none 0 0] 25) := ⟨_, rfl⟩
 have l0 : Below w.heap.size w w0 := by rw [hw0]; exact (Below.refl _ _).alloc (Nat.le_refl _) _
 have Z0 := Lh (show Blk w0 wb 25 [.int .i64 0, .string ⟨#[]⟩, .int .i64 0, .slice none 0 0] by rw [hw0, hwb]; exact Blk.new w _ _)
 have L0 := Lh l0
 have S0 := Lh (show w0.heap.size = wb + 1 by rw [hw0, hwb]; simp)
 have HR0 := Lh (HC.out w0 s (h.below l0) (Nat.le_refl _))
 have W0 := Lh hw0
 have HLV := Lh hlv
 clear h hwb hw0 l0 hlv
 go_enter Tryd.func71, Tryd.ntmps71
 go_upto_region 1 with fail
 rw [← W0.out, HWb.out]
 go_wp2_with fail
 refine HR0.out.mono ?_
 rintro e w1 ⟨n1, s1, cs1, rfl, ⟨f1, f2⟩, h1, hv1, k1⟩
 obtain ⟨nk, nt, nz, nl⟩ := n1
 obtain ⟨A1, c1, ys1, hcs, _⟩ := hv1.form
 subst hcs
 obtain ⟨nb, hnb⟩ : ∃ nb, w1.heap.size = nb := ⟨_, rfl⟩
 have HNB : Hid (wb < nb) := Lh (by have h1 := k1.size; have h2 := S0.out; omega)
 obtain ⟨w2, hw2⟩ : ∃ w2, w1.alloc (.cells #[.int .i64 nk, .string ⟨nt.toArray⟩, .int .i64 nz, .slice A1 nl.length c1] 25) = w2 := ⟨_, rfl⟩
 have l2 : Below w1.heap.size w1 w2 := by rw [← hw2]; exact (Below.refl _ _).alloc (Nat.le_refl _) _
 have B2 := Lh (show Blk w2 nb 25 (NC nk nt nz (.slice A1 nl.length c1)) by rw [← hw2, ← hnb]; exact Blk.new w1 _ _)
 have V2 : Hid (NV w2 (fun k => wb < k ∧ k ≠ nb) (.mk nk nt nz nl) (NC nk nt nz (.slice A1 nl.length c1))) := Lh (by
  have h3 := hv1.under
  exact NV.keep (fun k hk hs => ⟨l2.block k hk.2, by have h4 := hk.1; have h5 := S0.out; omega, by have h4 := hk.2; rw [hnb] at h4; omega⟩) _ _ h3)
 have Z2 := Lh ((k1.blk Z0.out (by have := hG'.out; omega)).below l2 (by have := k1.size; have := Z0.out.lt; omega))
 have R2 := Lh (h1.below l2)
 have K2 := Lh (show Kp (fun k => k = g) w w2 from ((Kp.of_below' (Z := fun k => k = g) L0.out).trans k1 (fun _ _ h => h)).trans (Kp.of_below' (Z := fun _ => False) l2) (fun _ _ h => h.elim))
 have E2 : Hid (∀ v, Ev (fun k => Src.opsMore k lv (.mk nk nt nz nl) s1) v → Ev (fun k => ops k lv s) v) := Lh (fun v hv => ev_ops (by have := HLV.out; omega) f1 hv)
 have M2 := Lh f2
 clear f1 f2 h1 hv1 k1 l2 Z0 HR0
 dsimp only [NC]
 go_upto_region 2 with fail
 try rw [hw2]
 try rw [hnb]
 clear hw2 hnb
 go_wp2_with fail
 go_loopg [] (mu s1) (fun k wr => ∃ (n' : Nd) (cs' : List Value) (s' : St), Hid (∀ v, Ev (fun k => Src.opsMore k lv n' s') v → Ev (fun k => ops k lv s) v) ∧ Hid (RS B wr g T E s') ∧ Hid (Blk wr nb 25 cs') ∧ Hid (NV wr (fun k => wb < k ∧ k ≠ nb) n' cs') ∧ Hid (Blk wr wb 25 [.int .i64 0, .string ⟨#[]⟩, .int .i64 0, .slice none 0 0]) ∧ Hid (Kp (fun k => k = g) w wr) ∧ Hid (mu s' = k) ∧ Hid (mu s' ≤ mu s))
 case atStart => exact ⟨.mk nk nt nz nl, _, s1, E2, R2, B2, V2, Z2, K2, Lh rfl, M2⟩
 case round =>
  clear E2 R2 B2 V2 Z2 K2 M2
  obtain ⟨n', cs', s', HE, R3, B3, V3, Z3, K3, M3, MS⟩ := hrel
  obtain ⟨nk, nt, nz, nl⟩ := n'
  obtain ⟨A1, c1, ys1, hcs, _⟩ := V3.out.form
  subst hcs
  obtain ⟨d0, d1, d2, d3, d4, d5, d6⟩ := R3.out.cells
  by_cases hop : (opOf s'.look).1 = lv
  ·
   have hopI : ((((opOf s'.look).1 : Nat) : Int) == (lv : Int)) = true := by rw [hop]; simp
   obtain ⟨o1, o2, o3, o4⟩ := op_sign (t := s'.look) (by rw [hop]; have := HLV.out; omega)
   have HA := Lh (advance_any R3.out o4)
   have HMa := Lh (mu_adv o4); have HMp := Lh (mu_pos o4)
   have HK1 := Lh o1; have HOK := Lh (And.intro o2 o3); have HOP := Lh hop
   obtain ⟨kk, hkk⟩ : ∃ kk, kk = (opOf s'.look).2 := ⟨_, rfl⟩
   rw [o1, ← hkk] at d5
   rw [← hkk] at HOK
   have HKK := Lh hkk
   clear o1 o2 o3 o4 hop hkk
   go_wp2_with fail
   clear d0 d1 d2 d3 d4 d5 d6
   refine HA.out.mono ?_
   rintro e w4 ⟨rfl, h4, k4⟩
   have R4 := Lh h4
   have B4 := Lh (k4.blk B3.out (by have := hG'.out; have := HNB.out; omega))
   have Z4 := Lh (k4.blk Z3.out (by have := hG'.out; omega))
   have V4 := Lh (k4.nv V3.out (fun k hk _ e => by have h1 := hk.1; have h2 := hG'.out; omega))
   have K4 := Lh (K3.out.trans k4 (fun _ _ h => h))
   have HCr := Lh (HC.out w4 s'.adv h4 (by have h1 := MS.out; have h2 := HMa.out; omega))
   clear h4 k4 R3 B3 Z3 V3 K3 HA
   go_wp2_with fail
   refine HCr.out.mono ?_
   rintro e w5 ⟨n2, s2, cs2, rfl, ⟨f1, f2⟩, h5, hv5, k5⟩
   obtain ⟨mk, mt, mz, ml⟩ := n2
   obtain ⟨A2, c2, ys2, hcs, _⟩ := hv5.form
   subst hcs
   have HS4 := Lh B4.out.lt
   obtain ⟨w6, hw6⟩ : ∃ w6, w5.alloc (.cells #[.int .i64 mk, .string ⟨mt.toArray⟩, .int .i64 mz, .slice A2 ml.length c2] 25) = w6 := ⟨_, rfl⟩
   obtain ⟨rb, hrb⟩ : ∃ rb, w5.heap.size = rb := ⟨_, rfl⟩
   have l6 : Below w5.heap.size w5 w6 := by rw [← hw6]; exact (Below.refl _ _).alloc (Nat.le_refl _) _
   have s6 : w6.heap.size = rb + 1 := by rw [← hw6, ← hrb]; simp
   have X6 := Lh (show Blk w6 rb 25 (NC mk mt mz (.slice A2 ml.length c2)) by rw [← hw6, ← hrb]; exact Blk.new w5 _ _)
   have hnr : nb < rb := by have h1 := k5.size; have h2 := HS4.out; omega
   have B6 := Lh ((k5.blk B4.out (by have := hG'.out; have := HNB.out; omega)).below l6 (by have := k5.size; have := HS4.out; omega))
   have Z6 := Lh ((k5.blk Z4.out (by have := hG'.out; omega)).below l6 (by have := k5.size; have := Z4.out.lt; omega))
   have V6 := Lh ((Kp.of_below' (Z := fun _ => False) l6).nv (k5.nv V4.out (fun k hk _ e => by have h1 := hk.1; have h2 := hG'.out; omega)) (fun _ _ _ h => h.elim))
   have U6 : Hid (NV w6 (fun k => wb < k ∧ k ≠ nb) (.mk mk mt mz ml) (NC mk mt mz (.slice A2 ml.length c2))) := Lh (NV.keep (fun k hk hs => ⟨l6.block k hs, by have h1 := HS4.out; have h2 := HNB.out; omega, by have h1 := HS4.out; omega⟩) _ _ hv5)
   have R6 := Lh (h5.below l6)
   have K6 := Lh ((K4.out.trans k5 (fun _ _ h => h)).trans (Kp.of_below' (Z := fun _ => False) l6) (fun _ _ h => h.elim))
   have E6 := Lh f1
   have M6 := Lh (show mu s2 < gk ∧ mu s2 ≤ mu s by have h1 := M3.out; have h2 := MS.out; have h3 := HMa.out; have h4 := HMp.out; omega)
   have HNR := Lh hnr
   clear f1 f2 h5 hv5 k5 l6 B4 Z4 V4 R4 K4 HCr HS4 hnr
   dsimp only [NC]
   go_upto_region 6 with fail
   try rw [hw6]
   try rw [hrb]
   clear hw6 hrb
   obtain ⟨w7, hw7⟩ : ∃ w7, w7 = w6.alloc (.cells #[iv nk, sv nt, iv nz, .slice A1 nl.length c1, iv mk, sv mt, iv mz, .slice A2 ml.length c2] 25) := ⟨_, rfl⟩
   have l7 : Below w6.heap.size w6 w7 := by rw [hw7]; exact (Below.refl _ _).alloc (Nat.le_refl _) _
   have X7 := Lh (show Blk w7 (rb + 1) 25 (NC nk nt nz (.slice A1 nl.length c1) ++ NC mk mt mz (.slice A2 ml.length c2)) by rw [hw7, ← s6]; exact Blk.new w6 _ _)
   have B7 := Lh (B6.out.below l7 B6.out.lt)
   have Z7 := Lh (Z6.out.below l7 Z6.out.lt)
   have R7 := Lh (R6.out.below l7)
   have K7 := Lh (K6.out.trans (Kp.of_below' (Z := fun _ => False) l7) (fun _ _ h => h.elim))
   have V7 : Hid (NV w7 (fun k => wb < k ∧ k ≠ nb) (.mk kk [] 0 [.mk nk nt nz nl, .mk mk mt mz ml]) (NC kk [] 0 (.slice (some ⟨rb + 1, 0, none⟩) 2 2))) := Lh (by
    refine NV.intro (l := [.mk nk nt nz nl, .mk mk mt mz ml]) (A := some ⟨rb + 1, 0, none⟩) (xs := NC nk nt nz (.slice A1 nl.length c1) ++ NC mk mt mz (.slice A2 ml.length c2)) (fine_small (by have := HOK.out; omega) (by have := HOK.out; omega) (by omega) (by omega) (by simp)) (by simp) (by simp) (fun h => by cases h) ?_ ?_
    ·
     intro _
     refine ⟨rb + 1, 0, rfl, by have := HNR.out; have := HNB.out; omega, fun j u hu => ?_⟩
     rw [Nat.zero_add]
     exact (X7.out.cell j).trans hu
    ·
     refine NL.app [_] [_] _ _ (NL.one ((Kp.of_below' (Z := fun _ => False) l7).nv V6.out (fun _ _ _ h => h.elim))) (NL.one ((Kp.of_below' (Z := fun _ => False) l7).nv U6.out (fun _ _ _ h => h.elim))))
   have W7 := Lh hw7; have S6 := Lh s6
   have HBS := Lh (show (Instr.buildSlice 23 2 #[(0, .agg #[iv nk, sv nt, iv nz, .slice A1 nl.length c1]), (1, .agg #[iv mk, sv mt, iv mz, .slice A2 ml.length c2])]).run Tryd.prog w6 = .ok (.slice (some ⟨rb + 1, 0, none⟩) 2 2) w7 by rw [hw7, ← s6]; exact build23_2 nk nz mk mz nt mt _ _ w6)
   clear l7 hw7 s6 R6 K6 Z6
   have HFin : Hid (∀ w8, Blk w8 nb 25 [iv kk, .string ⟨#[]⟩, .int .i64 0, .slice (some ⟨rb + 1, 0, none⟩) 2 2] → Kp (fun k => k = nb) w7 w8 → RS B w8 g T E s2 ∧ NV w8 (fun k => wb < k ∧ k ≠ nb) (.mk kk [] 0 [.mk nk nt nz nl, .mk mk mt mz ml]) (NC kk [] 0 (.slice (some ⟨rb + 1, 0, none⟩) 2 2)) ∧ Blk w8 wb 25 [.int .i64 0, .string ⟨#[]⟩, .int .i64 0, .slice none 0 0] ∧ Kp (fun k => k = g) w w8) := Lh (fun w8 hb8 hk8 => ⟨R7.out.kp hk8 (by have := hG'.out; have := HNB.out; omega) (fun k hk => by have := R7.out.hg; have := hG'.out; have := HNB.out; omega), hk8.nv V7.out (fun k hk _ e => hk.2 e), hk8.blk Z7.out (by have := HNB.out; omega), K7.out.trans hk8 (fun k hk e => by have := HWB.out; have := HNB.out; omega)⟩)
   have B6' : Hid (Blk w6 nb 25 [iv nk, sv nt, iv nz, .slice A1 nl.length c1]) := B6
   have X6' : Hid (Blk w6 rb 25 [iv mk, sv mt, iv mz, .slice A2 ml.length c2]) := X6
   have B7' : Hid (Blk w7 nb 25 [iv nk, sv nt, iv nz, .slice A1 nl.length c1]) := B7
   by_cases hl1 : lv = 1
   ·
    have hl1I : ((lv : Int) == 1) = true := by rw [hl1]; rfl
    have HL1 := Lh hl1
    clear hl1
    go_wp2_with (first
     | (with_reducible refine wpList_load_cells rfl 25 4 size25 (.tmp 7) rfl ⟨nb, 0, none⟩ rfl [iv nk, sv nt, iv nz, .slice A1 nl.length c1] rfl _ Tryd.underlying25 rfl B6'.out.at ?_)
     | (with_reducible refine wpList_load_cells rfl 25 4 size25 (.tmp 9) rfl ⟨rb, 0, none⟩ rfl [iv mk, sv mt, iv mz, .slice A2 ml.length c2] rfl _ Tryd.underlying25 rfl X6'.out.at ?_)
     | (refine wpList_bs rfl #[(0, .agg #[iv nk, sv nt, iv nz, .slice A1 nl.length c1]), (1, .agg #[iv mk, sv mt, iv mz, .slice A2 ml.length c2])] rfl (by simp [Act.eval, Act.put]) HBS.out ?_)
     | (with_reducible refine wpList_store_blk rfl 25 4 size25 (.tmp 7) (.tmp 32) rfl nb [iv kk, .string ⟨#[]⟩, .int .i64 0, .slice (some ⟨rb + 1, 0, none⟩) 2 2] rfl rfl _ B7'.out rfl rfl rfl ?_; intro w8 hb8 hk8; obtain ⟨q1, q2, q3, q4⟩ := HFin.out w8 hb8 hk8; have Q1 := Lh q1; have Q2 := Lh q2; have Q3 := Lh q3; have Q4 := Lh q4; have Q5 := Lh hb8; clear q1 q2 q3 q4 hb8 hk8)
     | (with_reducible refine wpList_load_cells rfl 25 4 size25 (.tmp 7) rfl ⟨nb, 0, none⟩ rfl [iv kk, .string ⟨#[]⟩, .int .i64 0, .slice (some ⟨rb + 1, 0, none⟩) 2 2] rfl _ Tryd.underlying25 rfl Q5.out.at ?_)
     | (with_reducible refine wpList_store_blk rfl 25 4 size25 (.tmp 6) (.tmp 35) rfl wb [iv kk, .string ⟨#[]⟩, .int .i64 0, .slice (some ⟨rb + 1, 0, none⟩) 2 2] rfl rfl _ Q3.out rfl rfl rfl ?_; intro w9 hb9 hk9))
    have HEv := HE.out _ (by rw [HL1.out]; exact ev_more_one (HOP.out.trans HL1.out) (by have h := E6.out; rw [HL1.out] at h; exact h))
    rw [← HKK.out] at HEv
    refine bodyPost_ret (v := .agg (NC kk [] 0 (.slice (some ⟨rb + 1, 0, none⟩) 2 2)).toArray) (box_res 4 size25 rfl _ _ wb _ _ rfl hb9 rfl Tryd.underlying25 rfl) rfl ⟨_, s2, _, rfl, ⟨HEv, M6.out.2⟩, Q1.out.kp hk9 (by have := hG'.out; omega) (fun k hk => by have := Q1.out.hg; have := hG'.out; omega), ?_, Q4.out.trans hk9 (fun k hk e => by have := HWB.out; omega)⟩
    have hn := hk9.nv Q2.out (fun k hk _ e => by have h1 := hk.1; omega)
    exact NV.keep (fun k h1 h2 => ⟨rfl, by have := HWB.out; omega⟩) _ _ hn
   ·
    have hl1I : ((lv : Int) == 1) = false := by rw [beq_eq_false_iff_ne]; omega
    have HL1 := Lh hl1
    clear hl1
    go_wp2_with (first
     | (with_reducible refine wpList_load_cells rfl 25 4 size25 (.tmp 7) rfl ⟨nb, 0, none⟩ rfl [iv nk, sv nt, iv nz, .slice A1 nl.length c1] rfl _ Tryd.underlying25 rfl B6'.out.at ?_)
     | (with_reducible refine wpList_load_cells rfl 25 4 size25 (.tmp 9) rfl ⟨rb, 0, none⟩ rfl [iv mk, sv mt, iv mz, .slice A2 ml.length c2] rfl _ Tryd.underlying25 rfl X6'.out.at ?_)
     | (refine wpList_bs rfl #[(0, .agg #[iv nk, sv nt, iv nz, .slice A1 nl.length c1]), (1, .agg #[iv mk, sv mt, iv mz, .slice A2 ml.length c2])] rfl (by simp [Act.eval, Act.put]) HBS.out ?_)
     | (with_reducible refine wpList_store_blk rfl 25 4 size25 (.tmp 7) (.tmp 32) rfl nb [iv kk, .string ⟨#[]⟩, .int .i64 0, .slice (some ⟨rb + 1, 0, none⟩) 2 2] rfl rfl _ B7'.out rfl rfl rfl ?_; intro w8 hb8 hk8; obtain ⟨q1, q2, q3, q4⟩ := HFin.out w8 hb8 hk8; have Q1 := Lh q1; have Q2 := Lh q2; have Q3 := Lh q3; have Q4 := Lh q4; have Q5 := Lh hb8; clear q1 q2 q3 q4 hb8 hk8))
    have EN : Hid (∀ v, Ev (fun k => Src.opsMore k lv (.mk kk [] 0 [.mk nk nt nz nl, .mk mk mt mz ml]) s2) v → Ev (fun k => ops k lv s) v) := Lh (fun v hv => HE.out v (ev_more HOP.out HL1.out E6.out (by rw [← HKK.out]; exact hv)))
    have MN := Lh M6.out.1; have MN2 := Lh M6.out.2
    go_roundg (mu s2)
    case measure => exact MN.out
    case rel => exact ⟨_, _, s2, EN, Q1, Q5, Q2, Q3, Q4, Lh rfl, MN2⟩
  ·
   have hopI : ((((opOf s'.look).1 : Nat) : Int) == (lv : Int)) = false := by rw [beq_eq_false_iff_ne]; omega
   have HEv := Lh (HE.out _ (ev_more_end hop))
   clear hop HE
   go_wp2_with (first
    | (with_reducible refine wpList_load_cells rfl 25 4 size25 (.tmp 7) rfl ⟨nb, 0, none⟩ rfl (NC nk nt nz (.slice A1 nl.length c1)) rfl _ Tryd.underlying25 rfl B3.out.at ?_)
    | (with_reducible refine wpList_store_blk rfl 25 4 size25 (.tmp 6) (.tmp 35) rfl wb (NC nk nt nz (.slice A1 nl.length c1)) rfl rfl _ Z3.out rfl rfl rfl ?_; intro w9 hb9 hk9))
   refine bodyPost_ret (v := .agg (NC nk nt nz (.slice A1 nl.length c1)).toArray) (box_res 4 size25 rfl _ _ wb _ _ rfl hb9 rfl Tryd.underlying25 rfl) rfl ⟨_, s', _, rfl, ⟨HEv.out, MS.out⟩, R3.out.kp hk9 (by have := hG'.out; omega) (fun k hk => by have := R3.out.hg; have := hG'.out; omega), ?_, K3.out.trans hk9 (fun k hk e => by have := HWB.out; omega)⟩
   have hn := hk9.nv V3.out (fun k hk _ e => by have h1 := hk.1; omega)
   exact NV.keep (fun k h1 h2 => ⟨rfl, by have := HWB.out; omega⟩) _ _ hn
end
end Go.Proofs.YtpbhgebblpdmnaaDoor
