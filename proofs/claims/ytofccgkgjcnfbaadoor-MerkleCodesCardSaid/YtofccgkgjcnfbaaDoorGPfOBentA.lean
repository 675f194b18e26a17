/-
  Contracts and words of several parts of the program (PfO, BentA), one after the other.
  Conditions: those that each says.
-/
import Derived.Test.YtofccgkgjcnfbaaDoorZ
import Derived.Test.YtofccgkgjcnfbaaDoorGen
import Derived.Test.YtofccgkgjcnfbaaDoorRProve
import Derived.Test.YtofccgkgjcnfbaaDoorEqT
import Derived.Test.YtofccgkgjcnfbaaDoorBentM
set_option linter.unusedSimpArgs false
namespace Go.Proofs.YtofccgkgjcnfbaaDoor
open Go.RowKit Wr Sh
set_option linter.unusedVariables false
set_option maxRecDepth 100000
set_option maxHeartbeats 2000000 in
theorem own_r (A : Option Addr) (L : List Lf) (c : Nat) (w : World) (hl : L.length ≤ 1073741824) (hr : Rd w w.heap.size A (LC L)) :
  Calls Tryd.prog 13 #[.slice A L.length c] w fun e w' => ∃ v, e = .returned v ∧ w'.ownsRow w.heap.size 41 2 v L.length (LC L) ∧ Below w.heap.size w w' := by
 obtain ⟨N, hN⟩ : ∃ N, N = L.length := ⟨_, rfl⟩
 rw [← hN] at hl ⊢
 have HN := Lh hN
 have HR := Lh hr
 clear hN hr
 go_enter Tryd.func13, Tryd.ntmps13
 go_wp2
 go_loopw [3, 4] (fun s3 s4 wr => ∃ j : Nat, j ≤ N ∧ s4 = .int .i64 j ∧ wr.ownsRow w.heap.size 41 2 s3 j (LC (L.take j)) ∧ Below w.heap.size w wr)
  (fun _ s4 _ => N - (intOf s4).toNat)
 case atStart => exact ⟨0, Nat.zero_le _, rfl, World.ownsRow_nil _ _ _ _, Below.refl _ _⟩
 case round =>
  obtain ⟨j, hj, rfl, ho, hb⟩ := hrel
  by_cases hlt : j < N
  ·
   have hjl : j < L.length := by have := HN.out; omega
   obtain ⟨g, o, rfl, hg, hcell⟩ := HR.out (by intro e; have := congrArg List.length e; rw [LC_len] at this; simp only [List.length_nil] at this; omega)
   have hat := LC_at L j hjl
   obtain ⟨k, hk⟩ : ∃ k, k = L[j].1 := ⟨_, rfl⟩
   obtain ⟨v, hv⟩ : ∃ v, v = L[j].2 := ⟨_, rfl⟩
   have HT := Lh (show L.take (j + 1) = L.take j ++ [(k, v)] by rw [List.take_succ_eq_append_getElem hjl, hk, hv])
   rw [← hk, ← hv] at hat
   have HSw := Lh (show LfAt g o j k v w from ⟨hcell _ _ hat.1, hcell _ _ hat.2⟩)
   have HS := Lh (HSw.out.below hb)
   have HO := Lh ho
   have HB := Lh hb
   clear hat hk hv hcell ho hb hg hjl
   go_wp2
   refine wp_region_held (S := fun W => LfAt g o j k v W) (by kernel_rfl) ?_
   change wpAnyH _ _ _ _ _ _ _ _ (World.drew wr)
   have hS0 : LfAt g o j k v (World.drew wr) := HS.out
   have BD : Below w.heap.size w (World.drew wr) := (HB.out).drew
   have OD : (World.drew wr).ownsRow w.heap.size 41 2 u3 j (LC (L.take j)) := (HO.out).drew
   generalize World.drew wr = Wd at hS0 BD OD ⊢
   replace BD := Lh BD
   replace OD := Lh OD
   refine tkH 0 ({ dst := some 11, op := Op.move (Operand.tmp 3), type := 33, pos := "law.go:44", after := #[], guard := none }) u3 hS0 (fun W hW => ?y1) ?_
   case y1 => go_simp
   try simp only [zp, zn, z1, z2, z3]
   refine tkH 1 ({ dst := some 12, op := Op.move (Operand.tmp 0), type := 24, pos := "law.go:44", after := #[], guard := none }) (.slice (some ⟨g, o, none⟩) N c) hS0 (fun W hW => ?y2) ?_
   case y2 => go_simp
   try simp only [zp, zn, z1, z2, z3]
   refine tkH 2 ({ dst := some 13, op := Op.move (Operand.tmp 4), type := 3, pos := "law.go:44", after := #[], guard := none }) (.int .i64 (j : Int)) hS0 (fun W hW => ?y3) ?_
   case y3 => go_simp
   try simp only [zp, zn, z1, z2, z3]
   refine tkH 3 ({ dst := some 14, op := Op.indexAddr 24 (Operand.tmp 12) (Operand.tmp 13), type := 0, pos := "law.go:44", after := #[dD 1, dD 2], guard := none }) (.pointer (some ⟨g, o + j * 2, none⟩)) hS0 (fun W hW => ?y4) ?_
   case y4 => go_simp
   try simp only [zp, zn, z1, z2, z3]
   refine tkH 4 ({ dst := some 15, op := Op.fieldAddr 87 (Operand.tmp 14) 0, type := 0, pos := "law.go:44", after := #[dD 3], guard := none }) (.pointer (some ⟨g, o + j * 2, none⟩)) hS0 (fun W hW => ?y5) ?_
   case y5 => go_simp
   try simp only [zp, zn, z1, z2, z3]
   refine tkH 5 ({ dst := some 16, op := Op.load 9 (Operand.tmp 15), type := 9, pos := "law.go:44", after := #[dD 4], guard := none }) (.string k) hS0 (fun W hW => by have hcl := hW.1; go_simp) ?_
   try simp only [zp, zn, z1, z2, z3]
   refine tkH 6 ({ dst := some 17, op := Op.move (Operand.tmp 0), type := 24, pos := "law.go:44", after := #[], guard := none }) (.slice (some ⟨g, o, none⟩) N c) hS0 (fun W hW => ?y7) ?_
   case y7 => go_simp
   try simp only [zp, zn, z1, z2, z3]
   refine tkH 7 ({ dst := some 18, op := Op.move (Operand.tmp 4), type := 3, pos := "law.go:44", after := #[], guard := none }) (.int .i64 (j : Int)) hS0 (fun W hW => ?y8) ?_
   case y8 => go_simp
   try simp only [zp, zn, z1, z2, z3]
   refine tkH 8 ({ dst := some 19, op := Op.indexAddr 24 (Operand.tmp 17) (Operand.tmp 18), type := 0, pos := "law.go:44", after := #[dD 6, dD 7], guard := none }) (.pointer (some ⟨g, o + j * 2, none⟩)) hS0 (fun W hW => ?y9) ?_
   case y9 => go_simp
   try simp only [zp, zn, z1, z2, z3]
   refine tkH 9 ({ dst := some 20, op := Op.fieldAddr 87 (Operand.tmp 19) 1, type := 0, pos := "law.go:44", after := #[dD 8], guard := none }) (.pointer (some ⟨g, o + j * 2 + 1, none⟩)) hS0 (fun W hW => ?y10) ?_
   case y10 => go_simp
   try simp only [zp, zn, z1, z2, z3]
   refine tkH 10 ({ dst := some 21, op := Op.load 9 (Operand.tmp 20), type := 9, pos := "law.go:44", after := #[dD 9], guard := none }) (.string v) hS0 (fun W hW => by have hcl := hW.2; go_simp) ?_
   try simp only [zp, zn, z1, z2, z3]
   refine tkH 11 ({ dst := some 22, op := Op.build 41 #[(0, Operand.tmp 16), (1, Operand.tmp 21)], type := 41, pos := "law.go:44", after := #[dD 5, dD 10], guard := none }) (.agg #[.string k, .string v]) hS0 (fun W hW => ?y12) ?_
   case y12 => go_simp
   try simp only [zp, zn, z1, z2, z3]
   refine wpAnyH_ready (rs := [12]) (by kernel_rfl) (by simp) ?_
   refine AllReadyH.cons (o := { dst := some 23, op := Op.buildSlice 33 1 #[(0, Operand.tmp 22)], type := 33, pos := "law.go:44", after := #[dD 11], guard := none }) rfl (fun K hK => ?_) AllReadyH.nil
   rw [if_pos (by rfl)]
   go_simp
   have HB2 := Lh ((Below.refl Wd.heap.size Wd).alloc (Nat.le_refl _) (.cells #[.string k, .string v] 41))
   have B2 := Lh (BD.out.trans (HB2.out.mono BD.out.size))
   have hS2 := HSw.out.below B2.out
   have O2 := Lh (OD.out.alloc (.cells #[.string k, .string v] 41))
   have R2 := Lh (rd_new Wd (LC [(k, v)]) 41)
   refine hK.out _ _ hS2 (fun _ => ?_)
   clear hK K
   try simp only [zp, zn, z1, z2, z3]
   refine wpAnyH_ready (rs := [13]) (by kernel_rfl) (by simp) ?_
   refine AllReadyH.cons (o := { dst := some 24, op := Op.call { callee := Callee.builtin Builtin.append, args := #[Operand.tmp 11, Operand.tmp 23], argTypes := #[33, 33] }, type := 33, pos := "law.go:44", after := #[dD 0, dD 12], guard := none }) rfl (fun K hK => ?_) AllReadyH.nil
   rw [if_pos (by rfl)]
   refine wp_append_leaves (T := 33) (e := 41) (by kernel_rfl) info41 (.tmp 11) (.tmp 23) rfl w.heap.size u3 j (LC (L.take j)) rfl O2.out (some ⟨Wd.heap.size, 0, none⟩) 1 1 _ [(k, v)] rfl (fun e => by cases e) rfl R2.out (by omega) B2.out.size ?_
   intro v3 w3 O3 G3
   have B3 := Lh (below_app B2.out O2.out G3)
   have hS3 := HSw.out.below B3.out
   refine hK.out _ _ hS3 (fun _ => ?_)
   clear hK K
   try simp only [zp, zn, z1, z2, z3]
   refine wpAnyH_ready (rs := [14]) (by kernel_rfl) (by simp) ?_
   refine AllReadyH.cons (o := { dst := some 3, op := Op.assign (Operand.tmp 24), type := 33, pos := "law.go:44", after := #[dD 13, dC 13, dP 0, dP 1, dP 2, dP 3, dP 4, dP 5, dP 6, dP 7, dP 8, dP 9, dP 10, dP 11, dP 12, dP 13], guard := none }) rfl (fun K hK => ?_) AllReadyH.nil
   rw [if_pos (by rfl)]
   go_simp
   refine hK.out _ _ hS3 (fun _ => ?_)
   clear hK K
   try simp only [zp, zn, z1, z2, z3]
   refine wpAnyH_done (by kernel_rfl) ?_ _
   try simp only [zp, zn, z1, z2, z3]
   go_wp2
   go_roundw
   case rel => exact ⟨j + 1, by omega, by go_num, by rw [HT.out, LC_append]; exact O3, B3.out⟩
   case measure => simp only [intOf]; omega
  ·
   obtain rfl : j = N := by omega
   go_wp2
   go_ret
   have hT : L.take j = L := by rw [HN.out, List.take_length]
   rw [hT] at ho
   exact ⟨_, rfl, ho, hb⟩
def ModelP (w : World) (p : Pf) (A2 : Option Addr) (n m c2 : Nat) (e : Ending) (w' : World) : Prop :=
 ∃ A' c', e = .returned (.agg (PR p.first p.size (.slice A' n c') (.slice A2 m c2)).toArray) ∧ PfAt w' w'.heap.size p A' A2 c' c2 ∧ Below w.heap.size w w'
set_option maxHeartbeats 4000000 in
theorem pfOf_any (p : Pf) (A1 A2 : Option Addr) (n m c1 c2 : Nat) (w : World) (hn : n = p.leaves.length) (hm : m = p.sides.length) (hp : PfAt w w.heap.size p A1 A2 c1 c2) :
  Calls Tryd.prog 30 #[.agg (PR p.first p.size (.slice A1 n c1) (.slice A2 m c2)).toArray] w (ModelP w p A2 n m c2) := by
 obtain ⟨f, hf⟩ : ∃ f, f = p.first := ⟨_, rfl⟩
 obtain ⟨sz, hsz⟩ : ∃ f, f = p.size := ⟨_, rfl⟩
 have hZ := hZP
 have HP := Lh hp
 have HN := Lh hn
 have HC := Lh (fun (W : World) (hb : Below w.heap.size w W) => show Calls Tryd.prog 13 #[.slice A1 n c1] W fun e w' => ∃ v, e = .returned v ∧ w'.ownsRow W.heap.size 41 2 v n (LC p.leaves) ∧ Below W.heap.size W w' from by
  rw [hn]; exact own_r A1 p.leaves c1 W hp.okl.1 ((hp.r1.below hb).more hb.size))
 have HPA := Lh (fun (W : World) (A' : Option Addr) (c' : Nat) (hb : Below w.heap.size w W) (hr : Rd W W.heap.size A' (LC p.leaves)) (h1 : n ≤ c') (h2 : A' = none → c' = 0) => show PfAt W W.heap.size p A' A2 c' c2 from
  ⟨hr, (hp.r2.below hb).more hb.size, ⟨by rw [← hn]; exact h1, h2⟩, hp.k2, hp.okl, hp.oks, hp.oki⟩)
 unfold ModelP
 rw [← hf, ← hsz]
 obtain ⟨W1, hW1⟩ : ∃ W, W = (w.alloc (.cells (PR f sz (.slice A1 n c1) (.slice A2 m c2)).toArray 54)).alloc (.cells ZP.toArray 50) := ⟨_, rfl⟩
 have B1 := Lh (show Below w.heap.size w W1 by rw [hW1]; exact ((Below.refl _ _).alloc (Nat.le_refl _) _).alloc (by simp) _)
 have HS1 := Lh (show Blk W1 w.heap.size 54 (PR f sz (.slice A1 n c1) (.slice A2 m c2)) by rw [hW1]; exact (Blk.new w 54 _).alloc _)
 have Z1 := Lh (show Blk W1 (w.heap.size + 1) 50 ZP by rw [hW1]; exact Blk.newAt _ _ 50 ZP (by simp))
 have HW := Lh hW1
 clear hn hm hp hf hsz hW1
 go_enter Tryd.func30, Tryd.ntmps30
 go_upto_region 1 with fail
 first | rw [← HW.out] | (have hw := HW.out; simp only [PR] at hw; rw [← hw])
 refine wp_region_held (S := fun W => Blk W w.heap.size 54 (PR f sz (.slice A1 n c1) (.slice A2 m c2))) (by kernel_rfl) ?_
 change wpAnyH _ _ _ _ _ _ _ _ (World.drew W1)
 have hs0 : Blk (World.drew W1) w.heap.size 54 (PR f sz (.slice A1 n c1) (.slice A2 m c2)) := HS1.out
 have BD := Lh B1.out.drew
 have ZD := Lh (show Blk (World.drew W1) (w.heap.size + 1) 50 ZP from Z1.out)
 generalize World.drew W1 = Wd at hs0 BD ZD ⊢
 refine tkH 0 ({ dst := some 3, op := Op.fieldAddr 54 (Operand.tmp 1) 0, type := 0, pos := "law.go:60", after := #[], guard := none }) (.pointer (some ⟨w.heap.size, 0, none⟩)) hs0 (fun W hW => ?y1) ?_
 case y1 => go_simp
 try simp only [zp, zn, z1, z2, z3]
 refine tkH 1 ({ dst := some 4, op := Op.load 3 (Operand.tmp 3), type := 3, pos := "law.go:60", after := #[dD 0], guard := none }) (.int .i64 f) hs0 (fun W hW => by have hcl : W.cell? ⟨w.heap.size, 0, none⟩ = _ := hW.cell 0; simp only [PR, List.getElem?_cons_zero] at hcl; go_simp) ?_
 try simp only [zp, zn, z1, z2, z3]
 refine tkH 2 ({ dst := some 5, op := Op.fieldAddr 54 (Operand.tmp 1) 1, type := 0, pos := "law.go:60", after := #[], guard := none }) (.pointer (some ⟨w.heap.size, 1, none⟩)) hs0 (fun W hW => ?y3) ?_
 case y3 => go_simp
 try simp only [zp, zn, z1, z2, z3]
 refine tkH 3 ({ dst := some 6, op := Op.load 3 (Operand.tmp 5), type := 3, pos := "law.go:60", after := #[dD 2], guard := none }) (.int .i64 sz) hs0 (fun W hW => by have hcl : W.cell? ⟨w.heap.size, 1, none⟩ = _ := hW.cell 1; simp only [PR, List.getElem?_cons_zero, List.getElem?_cons_succ] at hcl; go_simp) ?_
 try simp only [zp, zn, z1, z2, z3]
 refine tkH 4 ({ dst := some 7, op := Op.fieldAddr 54 (Operand.tmp 1) 2, type := 0, pos := "law.go:60", after := #[], guard := none }) (.pointer (some ⟨w.heap.size, 2, none⟩)) hs0 (fun W hW => ?y5) ?_
 case y5 => go_simp
 try simp only [zp, zn, z1, z2, z3]
 refine tkH 5 ({ dst := some 8, op := Op.load 24 (Operand.tmp 7), type := 24, pos := "law.go:60", after := #[dD 4], guard := none }) (.slice A1 n c1) hs0 (fun W hW => by have hcl : W.cell? ⟨w.heap.size, 2, none⟩ = _ := hW.cell 2; simp only [PR, List.getElem?_cons_zero, List.getElem?_cons_succ] at hcl; go_simp) ?_
 try simp only [zp, zn, z1, z2, z3]
 refine tkH 7 ({ dst := some 10, op := Op.fieldAddr 54 (Operand.tmp 1) 3, type := 0, pos := "law.go:60", after := #[], guard := none }) (.pointer (some ⟨w.heap.size, 3, none⟩)) hs0 (fun W hW => ?y7) ?_
 case y7 => go_simp
 try simp only [zp, zn, z1, z2, z3]
 refine tkH 8 ({ dst := some 11, op := Op.load 48 (Operand.tmp 10), type := 48, pos := "law.go:60", after := #[dD 7], guard := none }) (.slice A2 m c2) hs0 (fun W hW => by have hcl : W.cell? ⟨w.heap.size, 3, none⟩ = _ := hW.cell 3; simp only [PR, List.getElem?_cons_zero, List.getElem?_cons_succ] at hcl; go_simp) ?_
 try simp only [zp, zn, z1, z2, z3]
 refine wpAnyH_ready (rs := [6]) (by kernel_rfl) (by simp) ?_
 refine AllReadyH.cons (o := { dst := some 9, op := Op.call { callee := Callee.value (Operand.func 13), args := #[Operand.tmp 8], argTypes := #[24] }, type := 33, pos := "law.go:60", after := #[dD 5], guard := none }) rfl (fun K hK => ?_) AllReadyH.nil
 rw [if_pos (by rfl)]
 have HCC := HC.out Wd BD.out
 go_simp
 refine HCC.mono ?_; rintro e w5 ⟨v5, rfl, ho5, hb5⟩
 obtain ⟨A', c', rfl, hcap, hnil, _⟩ := own_form ho5
 have hs5 := hs0.below hb5 hs0.lt
 have B5 := Lh (BD.out.trans (hb5.mono BD.out.size))
 have Z5 := Lh (ZD.out.below hb5 ZD.out.lt)
 have O5 := Lh ho5
 have R5 := Lh (And.intro hcap hnil)
 have N5 := Lh (own_not (p := w.heap.size + 1) ho5 (.inl ZD.out.lt))
 clear HCC hb5 hcap hnil ho5
 go_wp2_with fail
 refine hK.out _ _ hs5 (fun _ => ?_)
 clear hK K
 try simp only [zp, zn, z1, z2, z3]
 refine tkH 9 ({ dst := some 12, op := Op.build 50 #[(0, Operand.tmp 4), (1, Operand.tmp 6), (2, Operand.tmp 9), (3, Operand.tmp 11)], type := 50, pos := "law.go:60", after := #[dD 1, dD 3, dD 6, dD 8], guard := none }) (.agg (PR f sz (.slice A' n c') (.slice A2 m c2)).toArray) hs5 (fun W hW => by clear hZ; go_simp; rfl) ?_
 try simp only [zp, zn, z1, z2, z3]
 refine wpAnyH_ready (rs := [10]) (by kernel_rfl) (by simp) ?_
 refine AllReadyH.cons (o := { dst := none, op := Op.store 50 (Operand.tmp 2) (Operand.tmp 12), type := 0, pos := "law.go:60", after := #[dD 9, dC 6, dP 0, dP 1, dP 2, dP 3, dP 4, dP 5, dP 6, dP 7, dP 8, dP 9], guard := none }) rfl (fun K hK => ?_) AllReadyH.nil
 rw [if_pos (by rfl)]
 have hs6 := hs5.setRow (show w.heap.size ≠ w.heap.size + 1 by omega) (PR f sz (.slice A' n c') (.slice A2 m c2)).toArray
 refine wp_store_row 50 (.tmp 2) (.tmp 12) rfl (w.heap.size + 1) (PR f sz (.slice A' n c') (.slice A2 m c2)).toArray rfl rfl 50 _ Z5.out (size50A _ _ _ _) (ZP_PR _ _ _ _) (PR_one _ _ _ _ _ _ _ _) ?_
 refine hK.out _ _ hs6 (fun _ => ?_)
 clear hK K
 try simp only [zp, zn, z1, z2, z3]
 refine wpAnyH_done (by kernel_rfl) ?_ _
 try simp only [zp, zn, z1, z2, z3]
 go_wp2_with fail
 refine bodyPost_ret (v := .agg (PR f sz (.slice A' n c') (.slice A2 m c2)).toArray) ?_ rfl ⟨_, _, rfl, HPA.out _ _ _ (belowRow B5.out (by omega) _) (Rd.of_own (own_setRow O5.out N5.out)) R5.out.1 R5.out.2, belowRow B5.out (by omega) _⟩
 have hr := run_loadVar_row (P := Tryd.prog) _ (w.heap.size + 1) 50 50 (PR f sz (.slice A' n c') (.slice A2 m c2)).toArray (0, 0) _ (heap_setRow w5 (w.heap.size + 1) (PR f sz (.slice A' n c') (.slice A2 m c2)).toArray _ 50 Z5.out) Tryd.underlying50 rfl (size50A _ _ _ _)
 simp [results, asAddr, hr]
theorem form_of {b : Nat} {W : World} {p : Pf} {v : Value} (h : ProofV b W p v) : ∃ A1 c1 A2 c2, v = .agg (PR p.first p.size (.slice A1 p.leaves.length c1) (.slice A2 p.sides.length c2)).toArray := by
 obtain ⟨A1, c1, A2, c2, e, _⟩ := h; exact ⟨A1, c1, A2, c2, e⟩
theorem pfAt_at {b : Nat} {W : World} {p : Pf} {A1 A2 : Option Addr} {n m c1 c2 : Nat} (h : ProofV b W p (.agg (PR p.first p.size (.slice A1 n c1) (.slice A2 m c2)).toArray)) (hf : Few p) : PfAt W W.heap.size p A1 A2 c1 c2 := by
 obtain ⟨B1, d1, B2, d2, e, h1, h2, h3, h4, _, h7⟩ := h
 simp only [PR, Value.agg.injEq, List.cons.injEq, Value.slice.injEq, and_true, true_and, Array.mk.injEq] at e
 obtain ⟨⟨rfl, rfl, rfl⟩, rfl, rfl, rfl⟩ := e
 exact ⟨h3, h4, h1, h2, hf.ok, ⟨by have := hf.sides; omega, h7⟩, hf.ints⟩
theorem few_prove_all (L : List Lf) (k : ByteArray) (hN : L.length ≤ 11) (hk : okL L) : Few (proveR node lf top L k).1 := by
 by_cases hv : validE L = 0
 ·
  exact few_prove L k hN hk hv
 ·
  unfold proveR; rw [if_neg hv]; exact few_noPf
end Go.Proofs.YtofccgkgjcnfbaaDoor
namespace Go.Proofs.YtofccgkgjcnfbaaDoor
open Go.RowKit Wr Sh
set_option linter.unusedVariables false
set_option maxRecDepth 100000
structure PV (W : World) (B N M : Nat) (p : Pf) (A1 A2 : Option Addr) (n m c1 c2 : Nat) : Prop where
 at_ : PfAt W B p A1 A2 c1 c2
 hn : n = p.leaves.length
 hm : m = p.sides.length
 ln : n ≤ N
 lm : m ≤ N
 sz : ∀ x ∈ p.leaves, x.1.size ≤ M ∧ x.2.size ≤ M
theorem PfAt.below {W W' : World} {B : Nat} {p : Pf} {A1 A2 : Option Addr} {c1 c2 : Nat} (h : PfAt W B p A1 A2 c1 c2) (hb : Below B W W') : PfAt W' B p A1 A2 c1 c2 := ⟨h.r1.below hb, h.r2.below hb, h.k1, h.k2, h.okl, h.oks, h.oki⟩
theorem PfAt.more {W : World} {B B' : Nat} {p : Pf} {A1 A2 : Option Addr} {c1 c2 : Nat} (h : PfAt W B p A1 A2 c1 c2) (hb : B ≤ B') : PfAt W B' p A1 A2 c1 c2 := ⟨h.r1.more hb, h.r2.more hb, h.k1, h.k2, h.okl, h.oks, h.oki⟩
theorem PV.below {W W' : World} {B N M : Nat} {p : Pf} {A1 A2 : Option Addr} {n m c1 c2 : Nat} (h : PV W B N M p A1 A2 n m c1 c2) (hb : Below B W W') : PV W' B N M p A1 A2 n m c1 c2 := ⟨h.at_.below hb, h.hn, h.hm, h.ln, h.lm, h.sz⟩
theorem PV.more {W : World} {B B' N M : Nat} {p : Pf} {A1 A2 : Option Addr} {n m c1 c2 : Nat} (h : PV W B N M p A1 A2 n m c1 c2) (hb : B ≤ B') : PV W B' N M p A1 A2 n m c1 c2 := ⟨h.at_.more hb, h.hn, h.hm, h.ln, h.lm, h.sz⟩
theorem PV.next {W W' : World} {N M : Nat} {p : Pf} {A1 A2 : Option Addr} {n m c1 c2 : Nat} (h : PV W W.heap.size N M p A1 A2 n m c1 c2) (hb : Below W.heap.size W W') : PV W' W'.heap.size N M p A1 A2 n m c1 c2 := (h.below hb).more hb.size
theorem PV.wide {W : World} {B N M N' M' : Nat} {p : Pf} {A1 A2 : Option Addr} {n m c1 c2 : Nat} (h : PV W B N M p A1 A2 n m c1 c2) (hN : N ≤ N') (hM : M ≤ M') : PV W B N' M' p A1 A2 n m c1 c2 := ⟨h.at_, h.hn, h.hm, Nat.le_trans h.ln hN, Nat.le_trans h.lm hN, fun x hx => ⟨Nat.le_trans (h.sz x hx).1 hM, Nat.le_trans (h.sz x hx).2 hM⟩⟩
def PVs (w : World) (N M : Nat) (e : Ending) (w' : World) : Prop :=
 ∃ (p : Pf) (A1 A2 : Option Addr) (n m c1 c2 : Nat), e = .returned (.agg (PR p.first p.size (.slice A1 n c1) (.slice A2 m c2)).toArray) ∧ PV w' w'.heap.size N M p A1 A2 n m c1 c2 ∧ Below w.heap.size w w'
theorem bent_all (hw by_ : Int) (p : Pf) (A1 A2 : Option Addr) (n m c1 c2 N M : Nat) (w : World) (h : PV w w.heap.size N M p A1 A2 n m c1 c2) (hN : N ≤ 99999) (hM : M ≤ 1073741822) (hwk : okInt hw) (hby : okInt by_) :
  Calls Tryd.prog 28 #[.agg (PR p.first p.size (.slice A1 n c1) (.slice A2 m c2)).toArray, .int .i64 hw, .int .i64 by_] w (PVs w (N + 1) (M + 2)) := by
 have main : Calls Tryd.prog 28 #[.agg (PR p.first p.size (.slice A1 n c1) (.slice A2 m c2)).toArray, .int .i64 hw, .int .i64 by_] w (BentP w n m M) := by
  obtain ⟨q, hq⟩ : ∃ q, q = ar hw 11 := ⟨_, rfl⟩
  have hq0 : 0 ≤ q ∧ q < 11 := by rw [hq]; exact ar_bounds hw 11 (by decide)
  have hn4 := h.ln
  have hm4 := h.lm
  exact bent_any p.first p.size p.leaves p.sides A1 A2 n m c1 c2 M hw q by_ w h.hn h.hm (by omega) (by omega) h.sz h.at_.r1 h.at_.r2 h.at_.k1.2 h.at_.k2.2 h.at_.oks.2 (by omega) hq.symm hwk hby h.at_.oki.1 h.at_.oki.2 (by omega)
 refine main.mono ?_
 rintro e w' ⟨f, sz, L', S', n', m', B1, d1, B2, d2, rfl, h1, h2, hb, h3, h4, h5, h6, h7, h8, h9, h10⟩
 have hn4 := h.ln
 have hm4 := h.lm
 obtain ⟨B1', d1', e1, k1, k2, k3⟩ := own_form h1
 cases e1
 obtain ⟨B2', d2', e2, k4, k5, k6⟩ := own_form h2
 cases e2
 exact ⟨⟨f, sz, L', S'⟩, B1, B2, n', m', d1, d2, rfl, ⟨⟨k3, k6, ⟨by show L'.length ≤ d1; omega, k2⟩, ⟨by show S'.length ≤ d2; omega, k5⟩, ⟨by show L'.length ≤ _; omega, fun x hx => by have := h8 x hx; omega⟩, ⟨by show S'.length ≤ _; omega, h5⟩, h9, h10⟩, h3, h4, by omega, by omega, h8⟩, hb⟩
theorem mem_cut {L : List Lf} {f l : Nat} {x : Lf} (h : x ∈ cut L f l) : x ∈ L := (cut_sub L f l).mem h
theorem prove_mem (L : List Lf) (k : ByteArray) : (∀ x ∈ (proveR node lf top L k).1.leaves, x ∈ L) ∧ (proveR node lf top L k).1.leaves.length ≤ L.length := by
 unfold proveR
 split
 ·
  split
  ·
   exact ⟨fun x hx => mem_cut hx, (cut_sub L _ _).length_le⟩
  ·
   exact ⟨fun x hx => mem_cut hx, (cut_sub L _ _).length_le⟩
 ·
  exact ⟨fun x hx => (by cases hx), Nat.zero_le _⟩
theorem pv_of {b : Nat} {W : World} {p : Pf} {v : Value} {L : List Lf} {M : Nat} (h : ProofV b W p v) (hf : Few p) (hmem : (∀ x ∈ p.leaves, x ∈ L) ∧ p.leaves.length ≤ L.length) (hL : L.length ≤ 11) (hM : ∀ x ∈ L, x.1.size ≤ M ∧ x.2.size ≤ M) :
  ∃ (A1 A2 : Option Addr) (n m c1 c2 : Nat), v = .agg (PR p.first p.size (.slice A1 n c1) (.slice A2 m c2)).toArray ∧ PV W W.heap.size 11 M p A1 A2 n m c1 c2 := by
 obtain ⟨A1, c1, A2, c2, rfl⟩ := form_of h
 exact ⟨A1, A2, _, _, c1, c2, rfl, ⟨pfAt_at h hf, rfl, rfl, by omega, by have := hf.sides; omega, fun x hx => hM x (hmem.1 x hx)⟩⟩
theorem rprove_pv (L : List Lf) (A : Option Addr) (c n M : Nat) (k : ByteArray) (w : World) (hn : n = L.length) (hL : L.length ≤ 11) (hM : ∀ x ∈ L, x.1.size ≤ M ∧ x.2.size ≤ M) (hv : validE L = 0) (h : LsAt w w.heap.size A L c) (ht : Tab 0 w) :
  Calls Tryd.prog 23 #[.slice A n c, .string k] w fun e w' => ∃ (p : Pf) (A1 A2 : Option Addr) (n m c1 c2 : Nat), e = .returned (.tuple #[.agg (PR p.first p.size (.slice A1 n c1) (.slice A2 m c2)).toArray, .int .i64 0]) ∧ PV w' w'.heap.size 11 M p A1 A2 n m c1 c2 ∧ Below w.heap.size w w' := by
 have := rprove_any A L c k w h (by omega) ht
 rw [hv, ← hn] at this
 refine this.mono ?_
 rintro e w' ⟨v, rfl, h1, h2⟩
 obtain ⟨A1, A2, n, m, c1, c2, rfl, hp⟩ := pv_of h1 (few_prove_all L k hL h.ok) (prove_mem L k) hL hM
 exact ⟨_, A1, A2, n, m, c1, c2, rfl, hp, h2⟩
structure At5 (R : List UInt8) (gr gk j j1 : Nat) (K K1 : ByteArray) (gl i : Nat) (cs : List Value) (W : World) : Prop where
 r : Blk W gr 29 (B8 R)
 k : W.cell? ⟨gk, j, none⟩ = some (.string K)
 k1 : W.cell? ⟨gk, j1, none⟩ = some (.string K1)
 p : ∀ q u, cs[q]? = some u → W.cell? ((⟨gl, i * 4, none⟩ : Addr).add q) = some u
theorem At5.below {R : List UInt8} {gr gk j j1 : Nat} {K K1 : ByteArray} {gl i : Nat} {cs : List Value} {W W' : World} (h : At5 R gr gk j j1 K K1 gl i cs W) (hb : Below W.heap.size W W') : At5 R gr gk j j1 K K1 gl i cs W' :=
 ⟨h.r.below hb h.r.lt, (hb.cell (p := ⟨gk, j, none⟩) (World.block_lt_of_cell? _ _ h.k)).trans h.k, (hb.cell (p := ⟨gk, j1, none⟩) (World.block_lt_of_cell? _ _ h.k1)).trans h.k1, fun q u hu => (hb.cell (World.block_lt_of_cell? _ _ (h.p q u hu))).trans (h.p q u hu)⟩
theorem row4 {W : World} {gl : Nat} {t : TypeId} {X Y Z : List Value} (h : Blk W gl t (X ++ (Y ++ Z))) (i : Nat) (hi : X.length = i * 4) : ∀ q u, Y[q]? = some u → W.cell? ((⟨gl, i * 4, none⟩ : Addr).add q) = some u := fun q u hu => by
 have hq : q < Y.length := by
  rcases Nat.lt_or_ge q Y.length with h1 | h1
  ·
   exact h1
  ·
   rw [List.getElem?_eq_none h1] at hu; cases hu
 rw [Addr.add_lit, h.cell, List.getElem?_append_right (by omega), List.getElem?_append_left (by omega), show i * 4 + q - X.length = q by omega, hu]
theorem wp_bs {P : Program} {o : Oper} {a : Act} {w w' : World} {K : Act → World → Prop} {Q : Exit → Act → World → Prop} {T : TypeId} {n : Nat} {xs : Array (Nat × Operand)} {vs : Array (Nat × Value)} {v : Value} (ho : o.op = .buildSlice T n xs) (hv : (xs.map fun (i, x) => (i, a.eval x)) = vs) (hr : (Instr.buildSlice T n vs).run P w = .ok v w') (hK : K (a.put o.dst v) w') : o.wp P a w K Q := by
 have h : (execOp a.eval o).run P w = .ok (.value v) w' := by
  unfold execOp
  simp [ho, hv, hr, Result.andThen]
 unfold Oper.wp
 rw [h]
 exact hK
end Go.Proofs.YtofccgkgjcnfbaaDoor
