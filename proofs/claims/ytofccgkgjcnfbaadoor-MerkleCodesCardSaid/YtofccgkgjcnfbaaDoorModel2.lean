/-
  plain with own rows behind; model, Same of proofs.
  Conditions: at most 2^30 leaves.
-/
import Derived.Test.YtofccgkgjcnfbaaDoorZ
import Derived.Test.YtofccgkgjcnfbaaDoorGPfOBentA
import Derived.Test.YtofccgkgjcnfbaaDoorGRMath3CollEncWREncW
set_option linter.unusedSimpArgs false
namespace Go.Proofs.YtofccgkgjcnfbaaDoor
open Go.RowKit Wr Sh
set_option linter.unusedVariables false
set_option maxRecDepth 100000
set_option maxHeartbeats 2000000 in
theorem plain_r (A : Option Addr) (L : List Lf) (c : Nat) (w : World) (hl : L.length ≤ 1073741824) (hr : Rd w w.heap.size A (LC L)) :
  Calls Tryd.prog 18 #[.slice A L.length c] w fun e w' => ∃ v, e = .returned v ∧ w'.ownsRow w.heap.size 87 2 v L.length (LC L) ∧ Below w.heap.size w w' := by
 obtain ⟨N, hN⟩ : ∃ N, N = L.length := ⟨_, rfl⟩
 rw [← hN] at hl ⊢
 have HN := Lh hN
 have HR := Lh hr
 clear hN hr
 go_enter Tryd.func18, Tryd.ntmps18
 go_wp2
 go_loopw [3, 4] (fun s3 s4 wr => ∃ j : Nat, j ≤ N ∧ s4 = .int .i64 j ∧ wr.ownsRow w.heap.size 87 2 s3 j (LC (L.take j)) ∧ Below w.heap.size w wr)
  (fun _ s4 _ => N - (intOf s4).toNat)
 case atStart => exact ⟨0, Nat.zero_le _, rfl, World.ownsRow_nil _ _ _ _, Below.refl _ _⟩
 case round =>
  obtain ⟨j, hj, rfl, ho, hb⟩ := hrel
  by_cases hlt : j < N
  ·
   have hjl : j < L.length := by have := HN.out; omega
   obtain ⟨g, o, rfl, hg, hcell⟩ := HR.out (by intro e; have := congrArg List.length e; rw [LC_len] at this; simp only [List.length_nil] at this; omega)
   have hat := LC_at L j hjl
   obtain ⟨k, hk⟩ : ∃ k, k = L[j].1 := ⟨_, rfl⟩
   obtain ⟨v, hv⟩ : ∃ v, v = L[j].2 := ⟨_, rfl⟩
   have HT := Lh (show L.take (j + 1) = L.take j ++ [(k, v)] by rw [List.take_succ_eq_append_getElem hjl, hk, hv])
   rw [← hk, ← hv] at hat
   have HSw := Lh (show LfAt g o j k v w from ⟨hcell _ _ hat.1, hcell _ _ hat.2⟩)
   have HS := Lh (HSw.out.below hb)
   have HO := Lh ho
   have HB := Lh hb
   clear hat hk hv hcell ho hb hg hjl
   go_wp2
   refine wp_region_held (S := fun W => LfAt g o j k v W) (by kernel_rfl) ?_
   change wpAnyH _ _ _ _ _ _ _ _ (World.drew wr)
   have hS0 : LfAt g o j k v (World.drew wr) := HS.out
   have BD : Below w.heap.size w (World.drew wr) := (HB.out).drew
   have OD : (World.drew wr).ownsRow w.heap.size 87 2 u3 j (LC (L.take j)) := (HO.out).drew
   generalize World.drew wr = Wd at hS0 BD OD ⊢
   replace BD := Lh BD
   replace OD := Lh OD
   refine tkH 0 ({ dst := some 11, op := Op.move (Operand.tmp 3), type := 24, pos := "law.go:53", after := #[], guard := none }) u3 hS0 (fun W hW => ?y1) ?_
   case y1 => go_simp
   try simp only [zp, zn, z1, z2, z3]
   refine tkH 1 ({ dst := some 12, op := Op.move (Operand.tmp 0), type := 33, pos := "law.go:53", after := #[], guard := none }) (.slice (some ⟨g, o, none⟩) N c) hS0 (fun W hW => ?y2) ?_
   case y2 => go_simp
   try simp only [zp, zn, z1, z2, z3]
   refine tkH 2 ({ dst := some 13, op := Op.move (Operand.tmp 4), type := 3, pos := "law.go:53", after := #[], guard := none }) (.int .i64 (j : Int)) hS0 (fun W hW => ?y3) ?_
   case y3 => go_simp
   try simp only [zp, zn, z1, z2, z3]
   refine tkH 3 ({ dst := some 14, op := Op.indexAddr 33 (Operand.tmp 12) (Operand.tmp 13), type := 0, pos := "law.go:53", after := #[dD 1, dD 2], guard := none }) (.pointer (some ⟨g, o + j * 2, none⟩)) hS0 (fun W hW => ?y4) ?_
   case y4 => go_simp
   try simp only [zp, zn, z1, z2, z3]
   refine tkH 4 ({ dst := some 15, op := Op.fieldAddr 41 (Operand.tmp 14) 0, type := 0, pos := "law.go:53", after := #[dD 3], guard := none }) (.pointer (some ⟨g, o + j * 2, none⟩)) hS0 (fun W hW => ?y5) ?_
   case y5 => go_simp
   try simp only [zp, zn, z1, z2, z3]
   refine tkH 5 ({ dst := some 16, op := Op.load 9 (Operand.tmp 15), type := 9, pos := "law.go:53", after := #[dD 4], guard := none }) (.string k) hS0 (fun W hW => by have hcl := hW.1; go_simp) ?_
   try simp only [zp, zn, z1, z2, z3]
   refine tkH 6 ({ dst := some 17, op := Op.move (Operand.tmp 0), type := 33, pos := "law.go:53", after := #[], guard := none }) (.slice (some ⟨g, o, none⟩) N c) hS0 (fun W hW => ?y7) ?_
   case y7 => go_simp
   try simp only [zp, zn, z1, z2, z3]
   refine tkH 7 ({ dst := some 18, op := Op.move (Operand.tmp 4), type := 3, pos := "law.go:53", after := #[], guard := none }) (.int .i64 (j : Int)) hS0 (fun W hW => ?y8) ?_
   case y8 => go_simp
   try simp only [zp, zn, z1, z2, z3]
   refine tkH 8 ({ dst := some 19, op := Op.indexAddr 33 (Operand.tmp 17) (Operand.tmp 18), type := 0, pos := "law.go:53", after := #[dD 6, dD 7], guard := none }) (.pointer (some ⟨g, o + j * 2, none⟩)) hS0 (fun W hW => ?y9) ?_
   case y9 => go_simp
   try simp only [zp, zn, z1, z2, z3]
   refine tkH 9 ({ dst := some 20, op := Op.fieldAddr 41 (Operand.tmp 19) 1, type := 0, pos := "law.go:53", after := #[dD 8], guard := none }) (.pointer (some ⟨g, o + j * 2 + 1, none⟩)) hS0 (fun W hW => ?y10) ?_
   case y10 => go_simp
   try simp only [zp, zn, z1, z2, z3]
   refine tkH 10 ({ dst := some 21, op := Op.load 9 (Operand.tmp 20), type := 9, pos := "law.go:53", after := #[dD 9], guard := none }) (.string v) hS0 (fun W hW => by have hcl := hW.2; go_simp) ?_
   try simp only [zp, zn, z1, z2, z3]
   refine tkH 11 ({ dst := some 22, op := Op.build 87 #[(0, Operand.tmp 16), (1, Operand.tmp 21)], type := 87, pos := "law.go:53", after := #[dD 5, dD 10], guard := none }) (.agg #[.string k, .string v]) hS0 (fun W hW => ?y12) ?_
   case y12 => go_simp
   try simp only [zp, zn, z1, z2, z3]
   refine wpAnyH_ready (rs := [12]) (by kernel_rfl) (by simp) ?_
   refine AllReadyH.cons (o := { dst := some 23, op := Op.buildSlice 24 1 #[(0, Operand.tmp 22)], type := 24, pos := "law.go:53", after := #[dD 11], guard := none }) rfl (fun K hK => ?_) AllReadyH.nil
   rw [if_pos (by rfl)]
   go_simp
   have HB2 := Lh ((Below.refl Wd.heap.size Wd).alloc (Nat.le_refl _) (.cells #[.string k, .string v] 87))
   have B2 := Lh (BD.out.trans (HB2.out.mono BD.out.size))
   have hS2 := HSw.out.below B2.out
   have O2 := Lh (OD.out.alloc (.cells #[.string k, .string v] 87))
   have R2 := Lh (rd_new Wd (LC [(k, v)]) 87)
   refine hK.out _ _ hS2 (fun _ => ?_)
   clear hK K
   try simp only [zp, zn, z1, z2, z3]
   refine wpAnyH_ready (rs := [13]) (by kernel_rfl) (by simp) ?_
   refine AllReadyH.cons (o := { dst := some 24, op := Op.call { callee := Callee.builtin Builtin.append, args := #[Operand.tmp 11, Operand.tmp 23], argTypes := #[24, 24] }, type := 24, pos := "law.go:53", after := #[dD 0, dD 12], guard := none }) rfl (fun K hK => ?_) AllReadyH.nil
   rw [if_pos (by rfl)]
   refine wp_append_leaves (T := 24) (e := 87) (by kernel_rfl) info87 (.tmp 11) (.tmp 23) rfl w.heap.size u3 j (LC (L.take j)) rfl O2.out (some ⟨Wd.heap.size, 0, none⟩) 1 1 _ [(k, v)] rfl (fun e => by cases e) rfl R2.out (by omega) B2.out.size ?_
   intro v3 w3 O3 G3
   have B3 := Lh (below_app B2.out O2.out G3)
   have hS3 := HSw.out.below B3.out
   refine hK.out _ _ hS3 (fun _ => ?_)
   clear hK K
   try simp only [zp, zn, z1, z2, z3]
   refine wpAnyH_ready (rs := [14]) (by kernel_rfl) (by simp) ?_
   refine AllReadyH.cons (o := { dst := some 3, op := Op.assign (Operand.tmp 24), type := 24, pos := "law.go:53", after := #[dD 13, dC 13, dP 0, dP 1, dP 2, dP 3, dP 4, dP 5, dP 6, dP 7, dP 8, dP 9, dP 10, dP 11, dP 12, dP 13], guard := none }) rfl (fun K hK => ?_) AllReadyH.nil
   rw [if_pos (by rfl)]
   go_simp
   refine hK.out _ _ hS3 (fun _ => ?_)
   clear hK K
   try simp only [zp, zn, z1, z2, z3]
   refine wpAnyH_done (by kernel_rfl) ?_ _
   try simp only [zp, zn, z1, z2, z3]
   go_wp2
   go_roundw
   case rel => exact ⟨j + 1, by omega, by go_num, by rw [HT.out, LC_append]; exact O3, B3.out⟩
   case measure => simp only [intOf]; omega
  ·
   obtain rfl : j = N := by omega
   go_wp2
   go_ret
   have hT : L.take j = L := by rw [HN.out, List.take_length]
   rw [hT] at ho
   exact ⟨_, rfl, ho, hb⟩
set_option maxHeartbeats 4000000 in
theorem model_any (p : Pf) (A1 A2 : Option Addr) (n m c1 c2 : Nat) (w : World) (hn : n = p.leaves.length) (hm : m = p.sides.length) (hp : PfAt w w.heap.size p A1 A2 c1 c2) :
  Calls Tryd.prog 27 #[.agg (PR p.first p.size (.slice A1 n c1) (.slice A2 m c2)).toArray] w (ModelP w p A2 n m c2) := by
 obtain ⟨f, hf⟩ : ∃ f, f = p.first := ⟨_, rfl⟩
 obtain ⟨sz, hsz⟩ : ∃ f, f = p.size := ⟨_, rfl⟩
 have hZ := hZP
 have HP := Lh hp
 have HN := Lh hn
 have HC := Lh (fun (W : World) (hb : Below w.heap.size w W) => show Calls Tryd.prog 18 #[.slice A1 n c1] W fun e w' => ∃ v, e = .returned v ∧ w'.ownsRow W.heap.size 87 2 v n (LC p.leaves) ∧ Below W.heap.size W w' from by
  rw [hn]; exact plain_r A1 p.leaves c1 W hp.okl.1 ((hp.r1.below hb).more hb.size))
 have HPA := Lh (fun (W : World) (A' : Option Addr) (c' : Nat) (hb : Below w.heap.size w W) (hr : Rd W W.heap.size A' (LC p.leaves)) (h1 : n ≤ c') (h2 : A' = none → c' = 0) => show PfAt W W.heap.size p A' A2 c' c2 from
  ⟨hr, (hp.r2.below hb).more hb.size, ⟨by rw [← hn]; exact h1, h2⟩, hp.k2, hp.okl, hp.oks, hp.oki⟩)
 unfold ModelP
 rw [← hf, ← hsz]
 obtain ⟨W1, hW1⟩ : ∃ W, W = (w.alloc (.cells (PR f sz (.slice A1 n c1) (.slice A2 m c2)).toArray 50)).alloc (.cells ZP.toArray 54) := ⟨_, rfl⟩
 have B1 := Lh (show Below w.heap.size w W1 by rw [hW1]; exact ((Below.refl _ _).alloc (Nat.le_refl _) _).alloc (by simp) _)
 have HS1 := Lh (show Blk W1 w.heap.size 50 (PR f sz (.slice A1 n c1) (.slice A2 m c2)) by rw [hW1]; exact (Blk.new w 50 _).alloc _)
 have Z1 := Lh (show Blk W1 (w.heap.size + 1) 54 ZP by rw [hW1]; exact Blk.newAt _ _ 54 ZP (by simp))
 have HW := Lh hW1
 clear hn hm hp hf hsz hW1
 go_enter Tryd.func27, Tryd.ntmps27
 go_upto_region 1 with fail
 first | rw [← HW.out] | (have hw := HW.out; simp only [PR] at hw; rw [← hw])
 refine wp_region_held (S := fun W => Blk W w.heap.size 50 (PR f sz (.slice A1 n c1) (.slice A2 m c2))) (by kernel_rfl) ?_
 change wpAnyH _ _ _ _ _ _ _ _ (World.drew W1)
 have hs0 : Blk (World.drew W1) w.heap.size 50 (PR f sz (.slice A1 n c1) (.slice A2 m c2)) := HS1.out
 have BD := Lh B1.out.drew
 have ZD := Lh (show Blk (World.drew W1) (w.heap.size + 1) 54 ZP from Z1.out)
 generalize World.drew W1 = Wd at hs0 BD ZD ⊢
 refine tkH 0 ({ dst := some 3, op := Op.fieldAddr 50 (Operand.tmp 1) 0, type := 0, pos := "law.go:65", after := #[], guard := none }) (.pointer (some ⟨w.heap.size, 0, none⟩)) hs0 (fun W hW => ?y1) ?_
 case y1 => go_simp
 try simp only [zp, zn, z1, z2, z3]
 refine tkH 1 ({ dst := some 4, op := Op.load 3 (Operand.tmp 3), type := 3, pos := "law.go:65", after := #[dD 0], guard := none }) (.int .i64 f) hs0 (fun W hW => by have hcl : W.cell? ⟨w.heap.size, 0, none⟩ = _ := hW.cell 0; simp only [PR, List.getElem?_cons_zero] at hcl; go_simp) ?_
 try simp only [zp, zn, z1, z2, z3]
 refine tkH 2 ({ dst := some 5, op := Op.fieldAddr 50 (Operand.tmp 1) 1, type := 0, pos := "law.go:65", after := #[], guard := none }) (.pointer (some ⟨w.heap.size, 1, none⟩)) hs0 (fun W hW => ?y3) ?_
 case y3 => go_simp
 try simp only [zp, zn, z1, z2, z3]
 refine tkH 3 ({ dst := some 6, op := Op.load 3 (Operand.tmp 5), type := 3, pos := "law.go:65", after := #[dD 2], guard := none }) (.int .i64 sz) hs0 (fun W hW => by have hcl : W.cell? ⟨w.heap.size, 1, none⟩ = _ := hW.cell 1; simp only [PR, List.getElem?_cons_zero, List.getElem?_cons_succ] at hcl; go_simp) ?_
 try simp only [zp, zn, z1, z2, z3]
 refine tkH 4 ({ dst := some 7, op := Op.fieldAddr 50 (Operand.tmp 1) 2, type := 0, pos := "law.go:65", after := #[], guard := none }) (.pointer (some ⟨w.heap.size, 2, none⟩)) hs0 (fun W hW => ?y5) ?_
 case y5 => go_simp
 try simp only [zp, zn, z1, z2, z3]
 refine tkH 5 ({ dst := some 8, op := Op.load 33 (Operand.tmp 7), type := 33, pos := "law.go:65", after := #[dD 4], guard := none }) (.slice A1 n c1) hs0 (fun W hW => by have hcl : W.cell? ⟨w.heap.size, 2, none⟩ = _ := hW.cell 2; simp only [PR, List.getElem?_cons_zero, List.getElem?_cons_succ] at hcl; go_simp) ?_
 try simp only [zp, zn, z1, z2, z3]
 refine tkH 7 ({ dst := some 10, op := Op.fieldAddr 50 (Operand.tmp 1) 3, type := 0, pos := "law.go:65", after := #[], guard := none }) (.pointer (some ⟨w.heap.size, 3, none⟩)) hs0 (fun W hW => ?y7) ?_
 case y7 => go_simp
 try simp only [zp, zn, z1, z2, z3]
 refine tkH 8 ({ dst := some 11, op := Op.load 48 (Operand.tmp 10), type := 48, pos := "law.go:65", after := #[dD 7], guard := none }) (.slice A2 m c2) hs0 (fun W hW => by have hcl : W.cell? ⟨w.heap.size, 3, none⟩ = _ := hW.cell 3; simp only [PR, List.getElem?_cons_zero, List.getElem?_cons_succ] at hcl; go_simp) ?_
 try simp only [zp, zn, z1, z2, z3]
 refine wpAnyH_ready (rs := [6]) (by kernel_rfl) (by simp) ?_
 refine AllReadyH.cons (o := { dst := some 9, op := Op.call { callee := Callee.value (Operand.func 18), args := #[Operand.tmp 8], argTypes := #[33] }, type := 24, pos := "law.go:65", after := #[dD 5], guard := none }) rfl (fun K hK => ?_) AllReadyH.nil
 rw [if_pos (by rfl)]
 have HCC := HC.out Wd BD.out
 go_simp
 refine HCC.mono ?_; rintro e w5 ⟨v5, rfl, ho5, hb5⟩
 obtain ⟨A', c', rfl, hcap, hnil, _⟩ := own_form ho5
 have hs5 := hs0.below hb5 hs0.lt
 have B5 := Lh (BD.out.trans (hb5.mono BD.out.size))
 have Z5 := Lh (ZD.out.below hb5 ZD.out.lt)
 have O5 := Lh ho5
 have R5 := Lh (And.intro hcap hnil)
 have N5 := Lh (own_not (p := w.heap.size + 1) ho5 (.inl ZD.out.lt))
 clear HCC hb5 hcap hnil ho5
 go_wp2_with fail
 refine hK.out _ _ hs5 (fun _ => ?_)
 clear hK K
 try simp only [zp, zn, z1, z2, z3]
 refine tkH 9 ({ dst := some 12, op := Op.build 54 #[(0, Operand.tmp 4), (1, Operand.tmp 6), (2, Operand.tmp 9), (3, Operand.tmp 11)], type := 54, pos := "law.go:65", after := #[dD 1, dD 3, dD 6, dD 8], guard := none }) (.agg (PR f sz (.slice A' n c') (.slice A2 m c2)).toArray) hs5 (fun W hW => by clear hZ; go_simp; rfl) ?_
 try simp only [zp, zn, z1, z2, z3]
 refine wpAnyH_ready (rs := [10]) (by kernel_rfl) (by simp) ?_
 refine AllReadyH.cons (o := { dst := none, op := Op.store 54 (Operand.tmp 2) (Operand.tmp 12), type := 0, pos := "law.go:65", after := #[dD 9, dC 6, dP 0, dP 1, dP 2, dP 3, dP 4, dP 5, dP 6, dP 7, dP 8, dP 9], guard := none }) rfl (fun K hK => ?_) AllReadyH.nil
 rw [if_pos (by rfl)]
 have hs6 := hs5.setRow (show w.heap.size ≠ w.heap.size + 1 by omega) (PR f sz (.slice A' n c') (.slice A2 m c2)).toArray
 refine wp_store_row 54 (.tmp 2) (.tmp 12) rfl (w.heap.size + 1) (PR f sz (.slice A' n c') (.slice A2 m c2)).toArray rfl rfl 54 _ Z5.out (size54A _ _ _ _) (ZP_PR _ _ _ _) (PR_one _ _ _ _ _ _ _ _) ?_
 refine hK.out _ _ hs6 (fun _ => ?_)
 clear hK K
 try simp only [zp, zn, z1, z2, z3]
 refine wpAnyH_done (by kernel_rfl) ?_ _
 try simp only [zp, zn, z1, z2, z3]
 go_wp2_with fail
 refine bodyPost_ret (v := .agg (PR f sz (.slice A' n c') (.slice A2 m c2)).toArray) ?_ rfl ⟨_, _, rfl, HPA.out _ _ _ (belowRow B5.out (by omega) _) (Rd.of_own (own_setRow O5.out N5.out)) R5.out.1 R5.out.2, belowRow B5.out (by omega) _⟩
 have hr := run_loadVar_row (P := Tryd.prog) _ (w.heap.size + 1) 54 54 (PR f sz (.slice A' n c') (.slice A2 m c2)).toArray (0, 0) _ (heap_setRow w5 (w.heap.size + 1) (PR f sz (.slice A' n c') (.slice A2 m c2)).toArray _ 54 Z5.out) Tryd.underlying54 rfl (size54A _ _ _ _)
 simp [results, asAddr, hr]
set_option maxHeartbeats 4000000 in
theorem sameDigs_any (A B : Option Addr) (S : List (List UInt8)) (N c d : Nat) (w : World) (hN : N = S.length) (hl : N ≤ 1073741824) (h16 : ∀ d ∈ S, d.length = 16) (hr : Rd w w.heap.size A (B8 S.flatten)) (hs : Rd w w.heap.size B (B8 S.flatten)) :
  Calls Tryd.prog 58 #[.slice A N c, .slice B N d] w fun e w' => e = .returned (.bool true) ∧ Below w.heap.size w w' := by
 have HN := Lh hN
 have HR := Lh hr
 have HS := Lh hs
 have H16 := Lh h16
 clear hN hr hs h16
 go_enter Tryd.func58, Tryd.ntmps58
 go_wp2
 go_loopw [5] (fun s5 wr => ∃ j : Nat, j ≤ N ∧ s5 = .int .i64 j ∧ Hid (Below w.heap.size w wr)) (fun s5 _ => N - (intOf s5).toNat)
 case atStart => exact ⟨0, Nat.zero_le _, rfl, Lh (Below.refl _ _)⟩
 case round =>
  obtain ⟨j, hj, rfl, HB⟩ := hrel
  by_cases hlt : j < N
  ·
   have hjl : j < S.length := by have := HN.out; omega
   have hne : B8 S.flatten ≠ [] := by intro e; have := congrArg List.length e; rw [B8_len, List.length_flatten, sum16 S H16.out] at this; simp at this; omega
   obtain ⟨g, o, rfl, hg, hcell⟩ := (HR.out.below HB.out) hne
   obtain ⟨g2, o2, rfl, hg2, hcell2⟩ := (HS.out.below HB.out) hne
   obtain ⟨D, hD⟩ : ∃ D, D = S[j] := ⟨_, rfl⟩
   have HDl := Lh (show D.length = 16 by rw [hD]; exact H16.out _ (List.getElem_mem _))
   have HD2 := Lh (show (∀ k v, (B8 D)[k]? = some v → wr.cell? ((⟨g, o + j * 16, none⟩ : Addr).add k) = some v) ∧ ∀ k v, (B8 D)[k]? = some v → wr.cell? ((⟨g2, o2 + j * 16, none⟩ : Addr).add k) = some v from
    ⟨fun k v h => by rw [Addr.add_lit, Nat.add_assoc]; exact hcell _ _ (dig_cell S H16.out j hjl k v (by rw [← hD]; exact h)), fun k v h => by rw [Addr.add_lit, Nat.add_assoc]; exact hcell2 _ _ (dig_cell S H16.out j hjl k v (by rw [← hD]; exact h))⟩)
   have i1 : (j : Int) < (N : Int) := by omega
   clear hcell hcell2 hne hg hg2 hjl hD
   go_wp2
   refine wp_region_held (S := fun W => (∀ k v, (B8 D)[k]? = some v → W.cell? ((⟨g, o + j * 16, none⟩ : Addr).add k) = some v) ∧ ∀ k v, (B8 D)[k]? = some v → W.cell? ((⟨g2, o2 + j * 16, none⟩ : Addr).add k) = some v) (by kernel_rfl) ?_
   change wpAnyH _ _ _ _ _ _ _ _ (World.drew wr)
   have hs0 : (∀ k v, (B8 D)[k]? = some v → (World.drew wr).cell? ((⟨g, o + j * 16, none⟩ : Addr).add k) = some v) ∧ ∀ k v, (B8 D)[k]? = some v → (World.drew wr).cell? ((⟨g2, o2 + j * 16, none⟩ : Addr).add k) = some v := HD2.out
   have BD := Lh HB.out.drew
   generalize World.drew wr = Wd at hs0 BD ⊢
   refine tkH 0 ({ dst := some 17, op := Op.move (Operand.tmp 0), type := 48, pos := "ref.go:228", after := #[], guard := none }) (.slice (some ⟨g, o, none⟩) N c) hs0 (fun W hW => ?y1) ?_
   case y1 => go_simp
   try simp only [zp, zn, z1, z2, z3]
   refine tkH 1 ({ dst := some 18, op := Op.move (Operand.tmp 5), type := 3, pos := "ref.go:228", after := #[], guard := none }) (.int .i64 (j : Int)) hs0 (fun W hW => ?y2) ?_
   case y2 => go_simp
   try simp only [zp, zn, z1, z2, z3]
   refine tkH 2 ({ dst := some 19, op := Op.indexAddr 48 (Operand.tmp 17) (Operand.tmp 18), type := 0, pos := "ref.go:228", after := #[dD 0, dD 1], guard := none }) (.pointer (some ⟨g, o + j * 16, none⟩)) hs0 (fun W hW => ?y3) ?_
   case y3 => go_simp
   try simp only [zp, zn, z1, z2, z3]
   refine tkH 3 ({ dst := some 20, op := Op.load 29 (Operand.tmp 19), type := 29, pos := "ref.go:228", after := #[dD 2], guard := none }) (.agg (B8 D).toArray) hs0 (fun W hW => exec_load_row _ _ 29 (.tmp 19) rfl ⟨g, o + j * 16, none⟩ rfl (B8 D) W (run_loadVar_at W _ 29 (B8 D) (.array 16 5) hW.1 Tryd.underlying29 rfl (size29 _ HDl.out))) ?_
   try simp only [zp, zn, z1, z2, z3]
   refine tkH 4 ({ dst := some 21, op := Op.move (Operand.tmp 1), type := 48, pos := "ref.go:228", after := #[], guard := none }) (.slice (some ⟨g2, o2, none⟩) N d) hs0 (fun W hW => ?y5) ?_
   case y5 => go_simp
   try simp only [zp, zn, z1, z2, z3]
   refine tkH 5 ({ dst := some 22, op := Op.move (Operand.tmp 5), type := 3, pos := "ref.go:228", after := #[], guard := none }) (.int .i64 (j : Int)) hs0 (fun W hW => ?y6) ?_
   case y6 => go_simp
   try simp only [zp, zn, z1, z2, z3]
   refine tkH 6 ({ dst := some 23, op := Op.indexAddr 48 (Operand.tmp 21) (Operand.tmp 22), type := 0, pos := "ref.go:228", after := #[dD 4, dD 5], guard := none }) (.pointer (some ⟨g2, o2 + j * 16, none⟩)) hs0 (fun W hW => ?y7) ?_
   case y7 => go_simp
   try simp only [zp, zn, z1, z2, z3]
   refine tkH 7 ({ dst := some 24, op := Op.load 29 (Operand.tmp 23), type := 29, pos := "ref.go:228", after := #[dD 6], guard := none }) (.agg (B8 D).toArray) hs0 (fun W hW => exec_load_row _ _ 29 (.tmp 23) rfl ⟨g2, o2 + j * 16, none⟩ rfl (B8 D) W (run_loadVar_at W _ 29 (B8 D) (.array 16 5) hW.2 Tryd.underlying29 rfl (size29 _ HDl.out))) ?_
   try simp only [zp, zn, z1, z2, z3]
   refine tkH 8 ({ dst := some 25, op := Op.binOp BinOp.neq 29 (Operand.tmp 20) (Operand.tmp 24) 29, type := 4, pos := "ref.go:228", after := #[dD 3, dD 7], guard := none }) (.bool false) hs0 (fun W hW => by have heq := eqi29s D HDl.out W; go_simp) ?_
   try simp only [zp, zn, z1, z2, z3]
   refine wpAnyH_done (by kernel_rfl) ?_ _
   try simp only [zp, zn, z1, z2, z3]
   go_wp2
   go_roundw
   case rel => exact ⟨j + 1, by omega, by go_num, Lh BD.out⟩
   case measure => simp only [intOf]; omega
  ·
   obtain rfl : j = N := by omega
   go_wp2
   go_ret
   exact ⟨rfl, HB.out⟩
set_option maxHeartbeats 4000000 in
theorem samePf_any (p : Pf) (A1 A2 B1 B2 : Option Addr) (n m c1 c2 d1 d2 : Nat) (w : World) (hn : n = p.leaves.length) (hm : m = p.sides.length) (hp : PfAt w w.heap.size p A1 A2 c1 c2) (hq : PfAt w w.heap.size p B1 B2 d1 d2) :
  Calls Tryd.prog 26 #[.agg (PR p.first p.size (.slice A1 n c1) (.slice A2 m c2)).toArray, .agg (PR p.first p.size (.slice B1 n d1) (.slice B2 m d2)).toArray] w fun e w' => e = .returned (.bool true) ∧ Below w.heap.size w w' := by
 obtain ⟨f, hf⟩ : ∃ f, f = p.first := ⟨_, rfl⟩
 obtain ⟨sz, hsz⟩ : ∃ f, f = p.size := ⟨_, rfl⟩
 rw [← hf, ← hsz]
 obtain ⟨W1, hW1⟩ : ∃ W, W = (w.alloc (.cells (PR f sz (.slice A1 n c1) (.slice A2 m c2)).toArray 54)).alloc (.cells (PR f sz (.slice B1 n d1) (.slice B2 m d2)).toArray 54) := ⟨_, rfl⟩
 have hb1 : Below w.heap.size w W1 := by rw [hW1]; exact ((Below.refl _ _).alloc (Nat.le_refl _) _).alloc (by simp) _
 have B1' := Lh hb1
 have P1 := Lh (show Blk W1 w.heap.size 54 (PR f sz (.slice A1 n c1) (.slice A2 m c2)) by rw [hW1]; exact (Blk.new w 54 _).alloc _)
 have Q1 := Lh (show Blk W1 (w.heap.size + 1) 54 (PR f sz (.slice B1 n d1) (.slice B2 m d2)) by rw [hW1]; exact Blk.newAt _ _ 54 _ (by simp))
 have HL := Lh (fun (W : World) (hb : Below w.heap.size w W) => show Calls Tryd.prog 34 #[.slice A1 n c1, .slice B1 n d1] W fun e w' => e = .returned (.bool true) ∧ Below W.heap.size W w' from by
  rw [hn]; exact same_any A1 B1 p.leaves c1 d1 W hp.okl.1 ((hp.r1.below hb).more hb.size) ((hq.r1.below hb).more hb.size))
 have HS := Lh (fun (W : World) (hb : Below w.heap.size w W) => show Calls Tryd.prog 58 #[.slice A2 m c2, .slice B2 m d2] W fun e w' => e = .returned (.bool true) ∧ Below W.heap.size W w' from
  sameDigs_any A2 B2 p.sides m c2 d2 W hm (by rw [hm]; exact hp.oks.1) hp.oks.2 ((hp.r2.below hb).more hb.size) ((hq.r2.below hb).more hb.size))
 have HW := Lh hW1
 clear hn hm hp hq hf hsz hW1 hb1
 have p0 : W1.cell? ⟨w.heap.size, 0, none⟩ = some (.int .i64 f) := (P1.out.cell 0).trans rfl
 have p1 : W1.cell? ⟨w.heap.size, 1, none⟩ = some (.int .i64 sz) := (P1.out.cell 1).trans rfl
 have p2 : W1.cell? ⟨w.heap.size, 2, none⟩ = some (.slice A1 n c1) := (P1.out.cell 2).trans rfl
 have q0 : W1.cell? ⟨w.heap.size + 1, 0, none⟩ = some (.int .i64 f) := (Q1.out.cell 0).trans rfl
 have q1 : W1.cell? ⟨w.heap.size + 1, 1, none⟩ = some (.int .i64 sz) := (Q1.out.cell 1).trans rfl
 have q2 : W1.cell? ⟨w.heap.size + 1, 2, none⟩ = some (.slice B1 n d1) := (Q1.out.cell 2).trans rfl
 go_enter Tryd.func26, Tryd.ntmps26
 go_upto_region 1 with fail
 first | rw [← HW.out] | (have hw := HW.out; simp only [PR] at hw; rw [← hw])
 go_wp2_with (first
  | (go_at_call 34; refine (HL.out _ B1'.out).mono ?_; rintro e w2 ⟨rfl, hb⟩; have B2' := Lh (B1'.out.trans (hb.mono B1'.out.size)); have p3 : w2.cell? ⟨w.heap.size, 3, none⟩ = some (.slice A2 m c2) := ((P1.out.below hb P1.out.lt).cell 3).trans rfl; have q3 : w2.cell? ⟨w.heap.size + 1, 3, none⟩ = some (.slice B2 m d2) := ((Q1.out.below hb Q1.out.lt).cell 3).trans rfl; clear hb p0 p1 p2 q0 q1 q2)
  | (go_at_call 58; refine (HS.out _ B2'.out).mono ?_; rintro e w3 ⟨rfl, hb⟩; have B3' := Lh (B2'.out.trans (hb.mono B2'.out.size)); clear hb))
 go_ret
 exact ⟨rfl, B3'.out⟩
end Go.Proofs.YtofccgkgjcnfbaaDoor
