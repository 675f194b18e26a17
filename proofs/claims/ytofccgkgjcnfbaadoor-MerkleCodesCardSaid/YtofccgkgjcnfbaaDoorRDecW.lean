/-
  The contract of the reference's Decode: it gives what decP says, and the proof as a value.
  Conditions: at most 2^20 bytes.
-/
import Derived.Test.YtofccgkgjcnfbaaDoorZ
import Derived.Test.YtofccgkgjcnfbaaDoorDecW
set_option linter.unusedSimpArgs false
namespace Go.Proofs.YtofccgkgjcnfbaaDoor
open Go.RowKit Wr Sh
set_option linter.unusedVariables false
set_option maxRecDepth 100000
abbrev kRDecW_0 : Oper := { dst := some 77, op := Op.load 24 (Operand.tmp 76), type := 24, pos := "ref.go:264", after := #[dD 0], guard := none }
abbrev kRDecW_1 : Oper := { dst := some 88, op := Op.buildSlice 24 1 #[(0, Operand.tmp 87)], type := 24, pos := "ref.go:264", after := #[dD 11], guard := none }
abbrev kRDecW_2 : Oper := { dst := some 89, op := Op.call { callee := Callee.builtin Builtin.append, args := #[Operand.tmp 77, Operand.tmp 88], argTypes := #[24, 24] }, type := 24, pos := "ref.go:264", after := #[dD 1, dD 12], guard := none }
abbrev kRDecW_3 : Oper := { dst := some 90, op := Op.fieldAddr 54 (Operand.tmp 14) 2, type := 0, pos := "ref.go:264", after := #[dP 0, dP 1, dP 2, dP 3, dP 4, dP 5, dP 6, dP 7, dP 8, dP 9, dP 10, dP 11, dP 12, dP 13], guard := none }
abbrev kRDecW_4 : Oper := { dst := none, op := Op.store 24 (Operand.tmp 90) (Operand.tmp 89), type := 0, pos := "ref.go:264", after := #[dD 14, dD 13, dC 13, dP 0, dP 1, dP 2, dP 3, dP 4, dP 5, dP 6, dP 7, dP 8, dP 9, dP 10, dP 11, dP 12, dP 13], guard := none }
set_option maxHeartbeats 8000000 in
theorem rdecode_any (A : Option Addr) (b : List UInt8) (c : Nat) (w : World) (hr : Rd w w.heap.size A (B8 b)) (hc : b.length ≤ c) (hl : b.length ≤ 1048576) :
  Calls Tryd.prog 42 #[.slice A b.length c] w fun e w' => ∃ v, e = .returned (.tuple #[v, .int .i64 ((decP b).2.1 : Nat), .int .i64 ((decP b).2.2 : Nat)]) ∧ ProofV w.heap.size w' (decP b).1 v ∧ Below w.heap.size w w' := by
 have hZ := hZP
 obtain ⟨WB, hW1⟩ : ∃ W, W = w.alloc (.cells ZP.toArray 54) := ⟨_, rfl⟩
 have K1 := Lh (Kz.first hW1)
 have HW := Lh hW1
 have HR := Lh hr
 have HC := Lh hc
 obtain ⟨xs, u, e1, h1⟩ : ∃ xs u e1, decInts b = (xs, u, e1) := ⟨_, _, _, rfl⟩
 obtain ⟨ss, u2, e2, h2⟩ : ∃ ss u2 e2, decStrs (b.drop u) = (ss, u2, e2) := ⟨_, _, _, rfl⟩
 obtain ⟨ds, u3, e3, h3⟩ : ∃ ds u3 e3, decDigs (b.drop (u + u2)) = (ds, u3, e3) := ⟨_, _, _, rfl⟩
 have hF := decP_form b h1 h2 h3
 obtain ⟨P, hP⟩ : ∃ P, P = decP b := ⟨_, rfl⟩
 rw [← hP] at hF ⊢
 have D1 := Lh h1
 have D2 := Lh h2
 have D3 := Lh h3
 have HC1 := Lh (show Calls Tryd.prog 71 #[.slice A b.length c] WB fun e w' => ∃ v', e = .returned (.tuple #[v', .int .i64 (u : Nat), .int .i64 (e1 : Nat)]) ∧ w'.ownsRow WB.heap.size 3 1 v' xs.length (I64 xs) ∧ Below WB.heap.size WB w' from by
  have := W1.rgetInts_any A b c WB ((hr.below K1.out.b).more K1.out.b.size) hc (by omega)
  rw [h1] at this; exact this)
 obtain ⟨n, hn⟩ : ∃ n, n = b.length := ⟨_, rfl⟩
 rw [← hn] at HC1 hl ⊢
 have HN := Lh hn
 have ZS := Lh (show (Tryd.prog.info? 54).map (·.size) = some ZP.toArray.size from size54A _ _ _ _)
 clear h1 h2 h3 hW1 hr hc hP hn
 by_cases he1 : e1 = 0
 ·
  subst he1
  by_cases hx : xs.length = 2
  ·
   rw [if_neg (by simp), if_neg (by simpa using hx)] at hF
   have hu : u ≤ b.length := (list_back codecInt b xs u D1.out).1
   have hd : (b.drop u).length = n - u := by rw [List.length_drop, HN.out]
   have hrc := HR.out.cut u c (by rw [B8_len]; omega) (by rw [B8_len]; exact HC.out)
   rw [← W1.B8_drop] at hrc
   obtain ⟨A', hA'⟩ : ∃ A', A' = (if c = u then A else A.map (·.add u)) := ⟨_, rfl⟩
   have hsl := slice_from A n c u (by rw [HN.out]; exact hu) (by rw [HN.out]; exact HC.out)
   rw [← hA'] at hrc hsl
   have HC2 := Lh (fun (W : World) (hb : Below w.heap.size w W) => show Calls Tryd.prog 72 #[.slice A' (n - u) (c - u)] W fun e w' => ∃ v', e = .returned (.tuple #[v', .int .i64 (u2 : Nat), .int .i64 (e2 : Nat)]) ∧ w'.ownsRow W.heap.size 9 1 v' ss.length (W1.Sb ss) ∧ Below W.heap.size W w' from by
    have := W1.rgetStrings_any A' (b.drop u) (c - u) W ((hrc.below hb).more hb.size) (by rw [hd, HN.out]; have := HC.out; omega) (by rw [hd]; omega)
    rw [D2.out, hd] at this; exact this)
   have HSL := Lh hsl
   clear hrc hA' hsl hd hu
   rw [hx] at HC1
   by_cases he2 : e2 = 0
   ·
    subst he2
    rw [if_neg (by simp)] at hF
    obtain ⟨k, hk⟩ : ∃ k, k = ss.length := ⟨_, rfl⟩
    have HK := Lh hk
    rw [← hk] at hF HC2
    by_cases hodd : k % 2 = 0
    ·
     have hu := (list_back codecInt b xs u D1.out).1
     have hu2 := (list_back codecStr (b.drop u) ss u2 D2.out).1
     rw [if_neg (by simpa using hodd)] at hF
     have huu : u + u2 ≤ b.length := by rw [List.length_drop] at hu2; omega
     have hd : (b.drop (u + u2)).length = n - (u + u2) := by rw [List.length_drop, HN.out]
     have hrc := HR.out.cut (u + u2) c (by rw [B8_len]; omega) (by rw [B8_len]; exact HC.out)
     rw [← W1.B8_drop] at hrc
     obtain ⟨A'', hA''⟩ : ∃ A'', A'' = (if c = u + u2 then A else A.map (·.add (u + u2))) := ⟨_, rfl⟩
     have HEV := Lh hodd
     have huu' := Lh huu
     have hsl2 : ∀ W : World, (Instr.sliceAt 39 (.slice A n c) (some (.int .i64 ((u : Int) + (u2 : Int)))) none none).run Tryd.prog W = .ok (.slice A'' (n - (u + u2)) (c - (u + u2))) W := by
      intro W
      have := slice_from A n c (u + u2) (by rw [HN.out]; exact huu) (by rw [HN.out]; exact HC.out) W
      rw [← hA'', Int.natCast_add] at this; exact this
     rw [← hA''] at hrc
     have HC3 := Lh (fun (W : World) (hb : Below w.heap.size w W) => show Calls Tryd.prog 73 #[.slice A'' (n - (u + u2)) (c - (u + u2))] W fun e w' => ∃ v', e = .returned (.tuple #[v', .int .i64 (u3 : Nat), .int .i64 (e3 : Nat)]) ∧ w'.ownsRow W.heap.size 29 16 v' ds.length (W1.Dg ds) ∧ Below W.heap.size W w' from by
      have := W1.rgetDigests_any A'' (b.drop (u + u2)) (c - (u + u2)) W ((hrc.below hb).more hb.size) (by rw [hd, HN.out]; have := HC.out; omega) (by rw [hd]; omega)
      rw [D3.out, hd] at this; exact this)
     have hm : Int.tmod (k : Int) 2 = 0 := by rw [Int.tmod_eq_emod_of_nonneg (Int.natCast_nonneg k)]; omega
     have huuI : (u : Int) + (u2 : Int) ≤ 1048576 := by rw [← HN.out] at huu; omega
     have HAA := Lh hA''
     have HSL2 := Lh hsl2
     clear hrc hsl2 hA'' hd hu hu2 huu hodd hk
     by_cases he3 : e3 = 0
     ·
      subst he3
      rw [if_neg (by simp)] at hF
      obtain ⟨x0, x1, hxx⟩ : ∃ x0 x1, xs = [x0, x1] := by
       match xs, hx with
       | [a, b], _ => exact ⟨a, b, rfl⟩
      subst hxx
      obtain ⟨L, hL⟩ : ∃ L, L = unltx ss := ⟨_, rfl⟩
      obtain ⟨K, hK2⟩ : ∃ K, k = 2 * K := ⟨k / 2, by have := HEV.out; omega⟩
      have hss : ltx L = ss := by rw [hL]; exact ltx_unltx K ss (by rw [← HK.out]; exact hK2)
      have hLK : L.length = K := by have := ltx_len L; rw [hss, ← HK.out] at this; omega
      have hfew := list_few codecStr (b.drop u) ss u2 D2.out
      have hkb : k ≤ 1048576 := by rw [HK.out]; have := hfew.1; have := hfew.2; rw [List.length_drop] at this; have := HN.out; omega
      have hdig := (list_back codecDig (b.drop (u + u2)) ds u3 D3.out)
      have hd16 : ∀ d ∈ ds, d.length = 16 := hdig.2.2.2
      have hu3 := hdig.1
      rw [List.length_drop] at hu3
      obtain ⟨m, hm3⟩ : ∃ m, m = ds.length := ⟨_, rfl⟩
      have HM := Lh hm3
      rw [← hm3] at HC3
      have hSb : W1.Sb ss = LC L := by rw [← hss, Sb_ltx]
      rw [hSb] at HC2
      have HF := Lh (show P = (⟨x0, x1, L, ds⟩, u + u2 + u3, 0) by rw [hF, hL]; rfl)
      have HLK := Lh hLK
      have HK2 := Lh hK2
      have H16 := Lh hd16
      have hKI : (k : Int) = 2 * (K : Int) := by omega
      have HKI := Lh hKI
      have hK0 : K ≤ 1048576 := by omega
      have HUU := Lh (show u + u2 + u3 ≤ 1048576 by have := HN.out; have := huu'.out; omega)
      have hsl := HSL.out
      have hsl2 := HSL2.out
      clear hF hx hL hss hLK hfew hdig hd16 hu3 hm3 hSb hK2 hKI
      go_enter Tryd.func42, Tryd.ntmps42
      go_upto_region 6 with (go_at_call 71; rw [← HW.out]; (with_reducible refine HC1.out.mono ?_); rintro e w2 ⟨v1, rfl, ho, hb⟩; obtain ⟨A1, c1, rfl, hc1, hnil1, hrd1⟩ := own_form ho; have HB2 := Lh hb; have HR1 := Lh hrd1; clear ho hb hrd1 hnil1 hc1)
      have K2 := Lh (K1.out.below HB2.out)
      obtain ⟨g1, o1, hA1, _, hcl1⟩ := HR1.out (by intro e; cases e)
      subst hA1
      have HX2 := Lh (show w2.cell? ⟨g1, o1, none⟩ = some (.int .i64 x0) ∧ w2.cell? ⟨g1, o1 + 1, none⟩ = some (.int .i64 x1) from ⟨hcl1 0 _ rfl, hcl1 1 _ rfl⟩)
      clear hcl1 HR1
      go_upto_region 11 with (go_at_call 72; (with_reducible refine (HC2.out _ K2.out.b).mono ?_); rintro e w3 ⟨v2, rfl, ho, hb⟩; have hho := ho; obtain ⟨A2, c2, rfl, hc2, hnil2, hrd2⟩ := own_form hho; have HB3 := Lh hb; have OT3 := Lh (own_base ho (show w.heap.size + 1 ≤ w2.heap.size from K2.out.z.lt)); clear ho hho hb hrd2 hnil2 hc2)
      have K3 := Lh (K2.out.below HB3.out)
      have HX3 := Lh (cells2_below HX2.out HB3.out)
      go_upto_region 14 with (go_at_call 73; (with_reducible refine (HC3.out _ K3.out.b).mono ?_); rintro e w4 ⟨v3, rfl, ho, hb⟩; have hho := ho; obtain ⟨A3, c3, rfl, hc3, hnil3, hrd3⟩ := own_form hho; have HB4 := Lh hb; have OS := Lh (own_base ho (show w.heap.size + 1 ≤ w3.heap.size from K3.out.z.lt)); clear ho hho hb hrd3 hnil3 hc3)
      have K4 := Lh (K3.out.below HB4.out)
      have HX4 := Lh (cells2_below HX3.out HB4.out)
      have OT := Lh (own_below OT3.out HB4.out)
      clear HX2 HX3 OT3 HB2 HB3 HB4 K2 K3 hsl hsl2
      go_cut [14] (fun s11 wx => ∃ gp : Nat, s11 = .pointer (some ⟨gp, 0, none⟩) ∧ Hid (DQ 54 87 w x0 x1 L ds k 0 m gp none 0 A2 c2 A3 c3 wx))
      case first =>
       refine wp_region_held (S := fun W => W.cell? ⟨g1, o1, none⟩ = some (.int .i64 x0) ∧ W.cell? ⟨g1, o1 + 1, none⟩ = some (.int .i64 x1)) (by kernel_rfl) ?_
       change wpAnyH _ _ _ _ _ _ _ _ (World.drew w4)
       have hs0 : (World.drew w4).cell? ⟨g1, o1, none⟩ = some (.int .i64 x0) ∧ (World.drew w4).cell? ⟨g1, o1 + 1, none⟩ = some (.int .i64 x1) := HX4.out
       have ZD := Lh (show Blk (World.drew w4) w.heap.size 54 ZP from K4.out.z)
       have OSD := Lh (show (World.drew w4).ownsRow (w.heap.size + 1) 29 16 (.slice A3 m c3) m (B8 ds.flatten) from OS.out.drew)
       have OTD := Lh (show (World.drew w4).ownsRow (w.heap.size + 1) 9 1 (.slice A2 k c2) k (LC L) from OT.out.drew)
       have BD := Lh K4.out.b.drew
       have BG1 := Lh (show g1 < (World.drew w4).heap.size from World.block_lt_of_cell? _ _ hs0.1)
       generalize World.drew w4 = Wd at hs0 ZD OSD OTD BD BG1 ⊢
       refine tkH 0 ({ dst := some 61, op := Op.move (Operand.tmp 5), type := 22, pos := "ref.go:262", after := #[], guard := none }) (.slice (some ⟨g1, o1, none⟩) 2 c1) hs0 (fun W hW => ?y1) ?_
       case y1 => go_simp
       try simp only [zp, zn, z1, z2, z3]
       refine tkH 1 ({ dst := some 62, op := Op.indexAddr 22 (Operand.tmp 61) (Operand.const (Value.int IntKind.i64 0)), type := 0, pos := "ref.go:262", after := #[dD 0], guard := none }) (.pointer (some ⟨g1, o1, none⟩)) hs0 (fun W hW => ?y2) ?_
       case y2 => go_simp
       try simp only [zp, zn, z1, z2, z3]
       refine tkH 2 ({ dst := some 63, op := Op.load 3 (Operand.tmp 62), type := 3, pos := "ref.go:262", after := #[dD 1], guard := none }) (.int .i64 x0) hs0 (fun W hW => by have hcl := hW.1; go_simp) ?_
       try simp only [zp, zn, z1, z2, z3]
       refine tkH 3 ({ dst := some 64, op := Op.move (Operand.tmp 5), type := 22, pos := "ref.go:262", after := #[], guard := none }) (.slice (some ⟨g1, o1, none⟩) 2 c1) hs0 (fun W hW => ?y4) ?_
       case y4 => go_simp
       try simp only [zp, zn, z1, z2, z3]
       refine tkH 4 ({ dst := some 65, op := Op.indexAddr 22 (Operand.tmp 64) (Operand.const (Value.int IntKind.i64 1)), type := 0, pos := "ref.go:262", after := #[dD 3], guard := none }) (.pointer (some ⟨g1, o1 + 1, none⟩)) hs0 (fun W hW => ?y5) ?_
       case y5 => go_simp
       try simp only [zp, zn, z1, z2, z3]
       refine tkH 5 ({ dst := some 66, op := Op.load 3 (Operand.tmp 65), type := 3, pos := "ref.go:262", after := #[dD 4], guard := none }) (.int .i64 x1) hs0 (fun W hW => by have hcl := hW.2; go_simp) ?_
       try simp only [zp, zn, z1, z2, z3]
       refine tkH 6 ({ dst := some 67, op := Op.move (Operand.tmp 11), type := 48, pos := "ref.go:262", after := #[], guard := none }) (.slice A3 m c3) hs0 (fun W hW => ?y7) ?_
       case y7 => go_simp
       try simp only [zp, zn, z1, z2, z3]
       refine tkH 7 ({ dst := some 68, op := Op.build 54 #[(0, Operand.tmp 63), (1, Operand.tmp 66), (3, Operand.tmp 67)], type := 54, pos := "ref.go:262", after := #[dD 2, dD 5, dD 6], guard := none }) (.agg (PR x0 x1 (.slice none 0 0) (.slice A3 m c3)).toArray) hs0 (fun W hW => by clear hZ; go_simp; rfl) ?_
       try simp only [zp, zn, z1, z2, z3]
       refine wpAnyH_ready (rs := [8]) (by kernel_rfl) (by simp) ?_
       refine AllReadyH.cons (o := { dst := some 14, op := Op.alloc 54, type := 0, pos := "ref.go:262", after := #[], guard := none }) rfl (fun K hK => ?_) AllReadyH.nil
       rw [if_pos (by rfl)]
       have hbt := (Below.refl Wd.heap.size Wd).alloc (Nat.le_refl _) (.cells ZP.toArray 54)
       have k10 := Lh hbt
       have hs11 := cells2_below hs0 hbt
       have z12 := Lh (Blk.new Wd 54 ZP)
       clear hbt
       go_simp
       generalize (Wd.alloc (.cells ZP.toArray 54)) = u9 at k10 hs11 z12 ⊢
       refine hK.out _ _ hs11 (fun _ => ?_)
       clear hK K
       try simp only [zp, zn, z1, z2, z3]
       refine wpAnyH_ready (rs := [9]) (by kernel_rfl) (by simp) ?_
       refine AllReadyH.cons (o := { dst := none, op := Op.store 54 (Operand.tmp 14) (Operand.tmp 68), type := 0, pos := "ref.go:262", after := #[dD 8, dD 7, dP 0, dP 1, dP 2, dP 3, dP 4, dP 5, dP 6, dP 7, dP 8], guard := none }) rfl (fun K hK => ?_) AllReadyH.nil
       rw [if_pos (by rfl)]
       have hs9 : (u9.setRow (Wd.heap.size) (PR x0 x1 (.slice none 0 0) (.slice A3 m c3)).toArray).cell? ⟨g1, o1, none⟩ = some (.int .i64 x0) ∧ (u9.setRow (Wd.heap.size) (PR x0 x1 (.slice none 0 0) (.slice A3 m c3)).toArray).cell? ⟨g1, o1 + 1, none⟩ = some (.int .i64 x1) := cells2_row hs11 (by have := BG1.out; omega) (PR x0 x1 (.slice none 0 0) (.slice A3 m c3)).toArray
       refine wp_store_row 54 (.tmp 14) (.tmp 68) rfl (Wd.heap.size) (PR x0 x1 (.slice none 0 0) (.slice A3 m c3)).toArray rfl rfl 54 _ (show (u9).heap[Wd.heap.size]? = _ from z12.out) (size54A _ _ _ _) (ZP_PR _ _ _ _) (PR_one _ _ _ _ _ _ _ _) ?_
       refine hK.out _ _ hs9 (fun _ => ?_)
       clear hK K
       try simp only [zp, zn, z1, z2, z3]
       refine wpAnyH_done (by kernel_rfl) ?_ _
       try simp only [zp, zn, z1, z2, z3]
       have KE := Lh (show DQ 54 87 w x0 x1 L ds k 0 m Wd.heap.size none 0 A2 c2 A3 c3 (u9.setRow Wd.heap.size (PR x0 x1 (.slice none 0 0) (.slice A3 m c3)).toArray) from
        dq_start ZD.out OSD.out OTD.out BD.out k10.out z12.out)
       go_wp2_with fail
       go_meet
       exact ⟨Wd.heap.size, rfl, KE⟩
      case rest =>
      obtain ⟨gp, rfl, KE⟩ := hcut
      obtain ⟨w5, hw5⟩ : ∃ W, W = wc := ⟨_, rfl⟩
      rw [← hw5] at KE ⊢
      clear hw5 HX4 OT OS K4
      go_wp2_with fail
      go_loopw [15] (fun s12 wr => ∃ (j i : Nat) (P : Option Addr) (c : Nat), j ≤ K ∧ Hid (i = 2 * j) ∧ s12 = .int .i64 (i : Int) ∧ Hid (DQ 54 87 w x0 x1 L ds k j m gp P c A2 c2 A3 c3 wr)) (fun s12 _ => k - (intOf s12).toNat)
      case atStart => exact ⟨0, 0, none, 0, Nat.zero_le _, Lh rfl, rfl, KE⟩
      case round =>
      clear KE
      obtain ⟨j, i, P, c, hj, HI, rfl, HQ⟩ := hrel
      by_cases hlt : i < k
      ·
       have hjK : j < K := by have := HI.out; have := HK2.out; omega
       have hjl : j < L.length := by have := HLK.out; omega
       have hiI : (i : Int) < (k : Int) := by omega
       obtain ⟨i1, hi1⟩ : ∃ i1, i1 = i + 1 := ⟨_, rfl⟩
       have hi1k : i1 < k := by have := HI.out; have := HK2.out; omega
       have hi1I : (i1 : Int) < (k : Int) := by omega
       have HJ1 := Lh (show IntKind.i64.wrap ((i : Int) + 1) = (i1 : Int) by rw [IntWalk.i64_in _ (by omega)]; omega)
       have hi2I : (i : Int) + 1 < (k : Int) := by omega
       have hiw : IntKind.i64.wrap ((i : Int) + 2) = (i : Int) + 2 := IntWalk.i64_in _ (by omega)
       obtain ⟨k1, hk1⟩ : ∃ x, x = L[j].1 := ⟨_, rfl⟩
       obtain ⟨k2, hk2⟩ : ∃ x, x = L[j].2 := ⟨_, rfl⟩
       have hat := LC_at L j hjl
       have HK1 := Lh (show (LC L)[i]? = some (.string k1) by rw [HI.out, Nat.mul_comm, hk1]; exact hat.1)
       have HK2' := Lh (show (LC L)[i1]? = some (.string k2) by rw [hi1, HI.out, Nat.mul_comm, hk2]; exact hat.2)
       have HT := Lh (show L.take (j + 1) = L.take j ++ [(k1, k2)] by rw [List.take_succ_eq_append_getElem hjl, hk1, hk2])
       obtain ⟨g, cc, hv, _⟩ := HQ.out.t.form (by omega)
       cases hv
       clear hat hk1 hk2 hi1
       go_upto_region 18 with fail
       refine wp_region_held (S := fun W => W.cell? ⟨g, i, none⟩ = some (.string k1) ∧ W.cell? ⟨g, i1, none⟩ = some (.string k2)) (by kernel_rfl) ?_
       change wpAnyH _ _ _ _ _ _ _ _ (World.drew wr)
       have KD := Lh (HQ.out.below (Below.refl _ _).drew)
       have hs0 : (World.drew wr).cell? ⟨g, i, none⟩ = some (.string k1) ∧ (World.drew wr).cell? ⟨g, i1, none⟩ = some (.string k2) := And.intro (own_cellAt KD.out.t HK1.out) (own_cellAt KD.out.t HK2'.out)
       generalize World.drew wr = Wd at KD hs0 ⊢
       refine tkH 0 ({ dst := some 76, op := Op.fieldAddr 54 (Operand.tmp 14) 2, type := 0, pos := "ref.go:264", after := #[], guard := none }) (.pointer (some ⟨gp, 2, none⟩)) hs0 (fun W hW => ?y1) ?_
       case y1 => go_simp
       try simp only [zp, zn, z1, z2, z3]
       refine tkH 2 ({ dst := some 78, op := Op.move (Operand.tmp 8), type := 47, pos := "ref.go:264", after := #[], guard := none }) (.slice (some ⟨g, 0, none⟩) k c2) hs0 (fun W hW => ?y2) ?_
       case y2 => go_simp
       try simp only [zp, zn, z1, z2, z3]
       refine tkH 3 ({ dst := some 79, op := Op.move (Operand.tmp 15), type := 3, pos := "ref.go:264", after := #[], guard := none }) (.int .i64 (i : Int)) hs0 (fun W hW => ?y3) ?_
       case y3 => go_simp
       try simp only [zp, zn, z1, z2, z3]
       refine tkH 4 ({ dst := some 80, op := Op.indexAddr 47 (Operand.tmp 78) (Operand.tmp 79), type := 0, pos := "ref.go:264", after := #[dD 2, dD 3], guard := none }) (.pointer (some ⟨g, i, none⟩)) hs0 (fun W hW => ?y4) ?_
       case y4 => go_simp
       try simp only [zp, zn, z1, z2, z3]
       refine tkH 5 ({ dst := some 81, op := Op.load 9 (Operand.tmp 80), type := 9, pos := "ref.go:264", after := #[dD 4], guard := none }) (.string k1) hs0 (fun W hW => by have hcl := hW.1; go_simp) ?_
       try simp only [zp, zn, z1, z2, z3]
       refine tkH 6 ({ dst := some 82, op := Op.move (Operand.tmp 8), type := 47, pos := "ref.go:264", after := #[], guard := none }) (.slice (some ⟨g, 0, none⟩) k c2) hs0 (fun W hW => ?y6) ?_
       case y6 => go_simp
       try simp only [zp, zn, z1, z2, z3]
       refine tkH 7 ({ dst := some 83, op := Op.move (Operand.tmp 15), type := 3, pos := "ref.go:264", after := #[], guard := none }) (.int .i64 (i : Int)) hs0 (fun W hW => ?y7) ?_
       case y7 => go_simp
       try simp only [zp, zn, z1, z2, z3]
       refine tkH 8 ({ dst := some 84, op := Op.binOp BinOp.add 3 (Operand.tmp 83) (Operand.const (Value.int IntKind.i64 1)) 3, type := 3, pos := "ref.go:264", after := #[dD 7], guard := none }) (.int .i64 (i1 : Int)) hs0 (fun W hW => by have hj1 := HJ1.out; go_simp; first | done | exact hj1 | (rw [hj1])) ?_
       try simp only [zp, zn, z1, z2, z3]
       refine tkH 9 ({ dst := some 85, op := Op.indexAddr 47 (Operand.tmp 82) (Operand.tmp 84), type := 0, pos := "ref.go:264", after := #[dD 6, dD 8], guard := none }) (.pointer (some ⟨g, i1, none⟩)) hs0 (fun W hW => ?y9) ?_
       case y9 => go_simp
       try simp only [zp, zn, z1, z2, z3]
       refine tkH 10 ({ dst := some 86, op := Op.load 9 (Operand.tmp 85), type := 9, pos := "ref.go:264", after := #[dD 9], guard := none }) (.string k2) hs0 (fun W hW => by have hcl := hW.2; go_simp) ?_
       try simp only [zp, zn, z1, z2, z3]
       refine tkH 11 ({ dst := some 87, op := Op.build 87 #[(0, Operand.tmp 81), (1, Operand.tmp 86)], type := 87, pos := "ref.go:264", after := #[dD 5, dD 10], guard := none }) (.agg #[.string k1, .string k2]) hs0 (fun W hW => ?y11) ?_
       case y11 => go_simp
       try simp only [zp, zn, z1, z2, z3]
       refine wpAnyH_ready (rs := [1, 12]) (by kernel_rfl) (by simp) ?_
       refine AllReadyH.cons (o := kRDecW_0) rfl (fun K hK => ?_) (AllReadyH.cons (o := kRDecW_1) rfl (fun K hK => ?_) AllReadyH.nil)
       ·
        rw [if_pos (by rfl)]
        have hcl : Wd.cell? ⟨gp, 2, none⟩ = some (.slice P j c) := (KD.out.q.cell 2).trans rfl
        go_simp
        refine hK.out _ _ hs0 (fun _ => ?_)
        clear hK K
        try simp only [zp, zn, z1, z2, z3]
        refine wpAnyH_ready (rs := [12]) (by kernel_rfl) (by simp) ?_
        refine AllReadyH.cons (o := kRDecW_1) rfl (fun K hK => ?_) AllReadyH.nil
        rw [if_pos (by rfl)]
        have Q13 := Lh (KD.out.below ((Below.refl Wd.heap.size Wd).alloc (Nat.le_refl _) (.cells #[.string k1, .string k2] 87)))
        have R14 := Lh (rd_new Wd (LC [(k1, k2)]) 87)
        go_simp
        change Hid (Rd (Wd.alloc (.cells #[.string k1, .string k2] 87)) (Wd.alloc (.cells #[.string k1, .string k2] 87)).heap.size _ _) at R14
        generalize Wd.alloc (.cells #[.string k1, .string k2] 87) = w12 at Q13 R14 ⊢
        generalize Wd.heap.size = g15 at R14 ⊢
        have hs16 := And.intro (own_cellAt Q13.out.t HK1.out) (own_cellAt Q13.out.t HK2'.out)
        refine hK.out _ _ hs16 (fun _ => ?_)
        clear hK K
        try simp only [zp, zn, z1, z2, z3]
        refine wpAnyH_ready (rs := [13]) (by kernel_rfl) (by simp) ?_
        refine AllReadyH.cons (o := kRDecW_2) rfl (fun K hK => ?_) AllReadyH.nil
        rw [if_pos (by rfl)]
        refine wp_append_leaves (T := 24) (e := 87) (by kernel_rfl) info87 (.tmp 77) (.tmp 88) rfl (w.heap.size + 1) _ j _ rfl Q13.out.l (some ⟨g15, 0, none⟩) 1 1 _ [(k1, k2)] rfl (fun e => by cases e) rfl R14.out (by omega) (by have := Q13.out.z.lt; omega) ?_
        intro v17 w18 ho hg
        have B21 := Lh (blk_other Q13.out.q Q13.out.l hg (by decide))
        have OT2 := own_other Q13.out.t Q13.out.l hg (by decide)
        have hs23 := And.intro (own_cellAt OT2 HK1.out) (own_cellAt OT2 HK2'.out)
        rw [← LC_append, ← HT.out] at ho
        have hho := ho
        obtain ⟨P19, p20, rfl, _, _, _⟩ := own_form hho
        clear hho
        have F22 := Lh (Q13.out.grow ho hg (by decide) (by decide) (by decide) (by decide) (by decide))
        clear ho hg OT2
        refine hK.out _ _ hs23 (fun _ => ?_)
        clear hK K
        try simp only [zp, zn, z1, z2, z3]
        refine tkH 14 kRDecW_3 (.pointer (some ⟨gp, 2, none⟩)) hs23 (fun W hW => ?y24) ?_
        case y24 => go_simp
        try simp only [zp, zn, z1, z2, z3]
        refine wpAnyH_ready (rs := [15]) (by kernel_rfl) (by simp) ?_
        refine AllReadyH.cons (o := kRDecW_4) rfl (fun K hK => ?_) AllReadyH.nil
        rw [if_pos (by rfl)]
        have c9 : w18.cell? ⟨gp, 2, none⟩ = some (.slice P j c) := (B21.out.cell 2).trans rfl
        have f9 : w18.frozen? ⟨gp, 2, none⟩ = false := B21.out.frozen 2
        have hs25 := And.intro (own_cellAt F22.out.t HK1.out) (own_cellAt F22.out.t HK2'.out)
        go_simp
        refine hK.out _ _ hs25 (fun _ => ?_)
        clear hK K
        try simp only [zp, zn, z1, z2, z3]
        refine wpAnyH_done (by kernel_rfl) ?_ _
        try simp only [zp, zn, z1, z2, z3]
        go_wp2_with fail
        go_roundw
        case rel => exact ⟨j + 1, i + 2, _, _, by omega, Lh (by have := HI.out; omega), by go_num, F22⟩
        case measure => simp only [intOf]; omega
       ·
        rw [if_pos (by rfl)]
        have Q27 := Lh (KD.out.below ((Below.refl Wd.heap.size Wd).alloc (Nat.le_refl _) (.cells #[.string k1, .string k2] 87)))
        have R28 := Lh (rd_new Wd (LC [(k1, k2)]) 87)
        go_simp
        change Hid (Rd (Wd.alloc (.cells #[.string k1, .string k2] 87)) (Wd.alloc (.cells #[.string k1, .string k2] 87)).heap.size _ _) at R28
        generalize Wd.alloc (.cells #[.string k1, .string k2] 87) = w26 at Q27 R28 ⊢
        generalize Wd.heap.size = g29 at R28 ⊢
        have hs30 := And.intro (own_cellAt Q27.out.t HK1.out) (own_cellAt Q27.out.t HK2'.out)
        refine hK.out _ _ hs30 (fun _ => ?_)
        clear hK K
        try simp only [zp, zn, z1, z2, z3]
        refine wpAnyH_ready (rs := [1]) (by kernel_rfl) (by simp) ?_
        refine AllReadyH.cons (o := kRDecW_0) rfl (fun K hK => ?_) AllReadyH.nil
        rw [if_pos (by rfl)]
        have hcl : w26.cell? ⟨gp, 2, none⟩ = some (.slice P j c) := (Q27.out.q.cell 2).trans rfl
        go_simp
        refine hK.out _ _ hs30 (fun _ => ?_)
        clear hK K
        try simp only [zp, zn, z1, z2, z3]
        refine wpAnyH_ready (rs := [13]) (by kernel_rfl) (by simp) ?_
        refine AllReadyH.cons (o := kRDecW_2) rfl (fun K hK => ?_) AllReadyH.nil
        rw [if_pos (by rfl)]
        refine wp_append_leaves (T := 24) (e := 87) (by kernel_rfl) info87 (.tmp 77) (.tmp 88) rfl (w.heap.size + 1) _ j _ rfl Q27.out.l (some ⟨g29, 0, none⟩) 1 1 _ [(k1, k2)] rfl (fun e => by cases e) rfl R28.out (by omega) (by have := Q27.out.z.lt; omega) ?_
        intro v31 w32 ho hg
        have B35 := Lh (blk_other Q27.out.q Q27.out.l hg (by decide))
        have OT2 := own_other Q27.out.t Q27.out.l hg (by decide)
        have hs37 := And.intro (own_cellAt OT2 HK1.out) (own_cellAt OT2 HK2'.out)
        rw [← LC_append, ← HT.out] at ho
        have hho := ho
        obtain ⟨P33, p34, rfl, _, _, _⟩ := own_form hho
        clear hho
        have F36 := Lh (Q27.out.grow ho hg (by decide) (by decide) (by decide) (by decide) (by decide))
        clear ho hg OT2
        refine hK.out _ _ hs37 (fun _ => ?_)
        clear hK K
        try simp only [zp, zn, z1, z2, z3]
        refine tkH 14 kRDecW_3 (.pointer (some ⟨gp, 2, none⟩)) hs37 (fun W hW => ?y38) ?_
        case y38 => go_simp
        try simp only [zp, zn, z1, z2, z3]
        refine wpAnyH_ready (rs := [15]) (by kernel_rfl) (by simp) ?_
        refine AllReadyH.cons (o := kRDecW_4) rfl (fun K hK => ?_) AllReadyH.nil
        rw [if_pos (by rfl)]
        have c9 : w32.cell? ⟨gp, 2, none⟩ = some (.slice P j c) := (B35.out.cell 2).trans rfl
        have f9 : w32.frozen? ⟨gp, 2, none⟩ = false := B35.out.frozen 2
        have hs39 := And.intro (own_cellAt F36.out.t HK1.out) (own_cellAt F36.out.t HK2'.out)
        go_simp
        refine hK.out _ _ hs39 (fun _ => ?_)
        clear hK K
        try simp only [zp, zn, z1, z2, z3]
        refine wpAnyH_done (by kernel_rfl) ?_ _
        try simp only [zp, zn, z1, z2, z3]
        go_wp2_with fail
        go_roundw
        case rel => exact ⟨j + 1, i + 2, _, _, by omega, Lh (by have := HI.out; omega), by go_num, F36⟩
        case measure => simp only [intOf]; omega
      ·
       have hjK : j = K := by have := HI.out; have := HK2.out; omega
       subst hjK
       have hik : i = k := by have := HI.out; have := HK2.out; omega
       subst hik
       have Z3h := Lh (show wr.heap[w.heap.size]? = some (.cells ZP.toArray 54 (0, 0)) from HQ.out.z)
       have hno : ¬ ((i : Int) + 1 < (i : Int)) := by omega
       have huw : IntKind.i64.wrap ((u : Int) + (u2 : Int) + (u3 : Int)) = (u : Int) + (u2 : Int) + (u3 : Int) := IntWalk.i64_in _ (by have := HUU.out; omega)
       go_wp2_with (first
        | (refine wpList_load_at rfl 54 (.tmp 14) rfl ⟨gp, 0, none⟩ rfl (PR x0 x1 (.slice P j c) (.slice A3 m c3)) _ HQ.out.q.at Tryd.underlying54 rfl (size54L _ _ _ _) ?_)
        | (with_reducible refine wpList_store_row rfl 54 (.tmp 2) (.tmp 91) rfl w.heap.size (PR x0 x1 (.slice P j c) (.slice A3 m c3)).toArray rfl rfl 54 _ Z3h.out (size54A _ _ _ _) (ZP_PR _ _ _ _) (PR_one _ _ _ _ _ _ _ _) ?_))
       refine bodyPost_ret (v := .tuple #[.agg (PR x0 x1 (.slice P j c) (.slice A3 m c3)).toArray, .int .i64 ((u : Int) + (u2 : Int) + (u3 : Int)), .int .i64 0]) ?_ rfl ⟨_, by rw [HF.out]; simp only [Int.natCast_add]; rfl, ?_, belowRow HQ.out.b (Nat.le_refl _) _⟩
       ·
        have hr := run_loadVar_row (P := Tryd.prog) _ w.heap.size 54 54 (PR x0 x1 (.slice P j c) (.slice A3 m c3)).toArray (0, 0) _ (heap_setRow wr w.heap.size _ _ 54 Z3h.out) Tryd.underlying54 rfl (size54A _ _ _ _)
        simp [results, Tryd.results42, asAddr, hr]
       ·
        rw [HF.out]
        exact dq_end HQ.out HLK.out HM.out.symm H16.out
     ·
      rw [if_pos he3] at hF
      have HF := Lh hF
      have hE : ¬ (e3 : Int) = 0 := by omega
      have hE2 : ((e3 : Int) == 0) = false := by rw [beq_eq_false_iff_ne]; exact hE
      have hsl := HSL.out
      have hsl2 := HSL2.out
      clear hF he3
      go_enter Tryd.func42, Tryd.ntmps42
      go_upto_region 6 with (go_at_call 71; rw [← HW.out]; with_reducible refine HC1.out.mono ?_; rintro e w2 ⟨v1, rfl, ho, hb⟩; obtain ⟨A1, c1, rfl, hc1, hnil1, hrd1⟩ := own_form ho; have HB2 := Lh hb; clear ho hb hrd1 hnil1 hc1)
      have K2 := Lh (K1.out.below HB2.out)
      go_upto_region 11 with (go_at_call 72; with_reducible refine (HC2.out _ K2.out.b).mono ?_; rintro e w3 ⟨v2, rfl, ho, hb⟩; obtain ⟨A2, c2, rfl, hc2, hnil2, hrd2⟩ := own_form ho; have HB3 := Lh hb; clear ho hb hrd2 hnil2 hc2)
      have K3 := Lh (K2.out.below HB3.out)
      go_upto_region 13 with (go_at_call 73; with_reducible refine (HC3.out _ K3.out.b).mono ?_; rintro e w4 ⟨v3, rfl, ho, hb⟩; obtain ⟨A3, c3, rfl, hc3, hnil3, hrd3⟩ := own_form ho; have HB4 := Lh hb; clear ho hb hrd3 hnil3 hc3)
      have K4 := Lh (K3.out.below HB4.out)
      have Z5 := Lh (show w4.heap[w.heap.size]? = some (.cells ZP.toArray 54 (0, 0)) from K4.out.z)
      go_wp2_with (with_reducible refine wpList_store_row rfl 54 (.tmp 2) (.tmp 59) rfl w.heap.size ZP.toArray rfl rfl 54 _ Z5.out ZS.out rfl ZP_one ?_)
      refine bodyPost_ret (v := .tuple #[.agg ZP.toArray, .int .i64 0, .int .i64 e3]) ?_ rfl ⟨_, by rw [HF.out]; rfl, by rw [HF.out]; exact noPf_V _ _, belowRow K4.out.b (Nat.le_refl _) _⟩
      have hr := run_loadVar_row (P := Tryd.prog) _ w.heap.size 54 54 ZP.toArray (0, 0) _ (heap_setRow w4 w.heap.size ZP.toArray _ 54 Z5.out) Tryd.underlying54 rfl ZS.out
      simp [results, Tryd.results42, asAddr, hr]
    ·
     rw [if_pos hodd] at hF
     have HF := Lh hF
     have hm : Int.tmod (k : Int) 2 = 1 := by rw [Int.tmod_eq_emod_of_nonneg (Int.natCast_nonneg k)]; omega
     have hsl := HSL.out
     clear hF hodd hk
     go_enter Tryd.func42, Tryd.ntmps42
     go_upto_region 6 with (go_at_call 71; rw [← HW.out]; with_reducible refine HC1.out.mono ?_; rintro e w2 ⟨v1, rfl, ho, hb⟩; obtain ⟨A1, c1, rfl, hc1, hnil1, hrd1⟩ := own_form ho; have HB2 := Lh hb; clear ho hb hrd1 hnil1 hc1)
     have K2 := Lh (K1.out.below HB2.out)
     go_upto_region 10 with (go_at_call 72; with_reducible refine (HC2.out _ K2.out.b).mono ?_; rintro e w3 ⟨v2, rfl, ho, hb⟩; obtain ⟨A2, c2, rfl, hc2, hnil2, hrd2⟩ := own_form ho; have HB3 := Lh hb; clear ho hb hrd2 hnil2 hc2)
     have K3 := Lh (K2.out.below HB3.out)
     have Z5 := Lh (show w3.heap[w.heap.size]? = some (.cells ZP.toArray 54 (0, 0)) from K3.out.z)
     go_wp2_with (with_reducible refine wpList_store_row rfl 54 (.tmp 2) (.tmp 46) rfl w.heap.size ZP.toArray rfl rfl 54 _ Z5.out ZS.out rfl ZP_one ?_)
     refine bodyPost_ret (v := .tuple #[.agg ZP.toArray, .int .i64 0, .int .i64 2]) ?_ rfl ⟨_, by rw [HF.out]; rfl, by rw [HF.out]; exact noPf_V _ _, belowRow K3.out.b (Nat.le_refl _) _⟩
     have hr := run_loadVar_row (P := Tryd.prog) _ w.heap.size 54 54 ZP.toArray (0, 0) _ (heap_setRow w3 w.heap.size ZP.toArray _ 54 Z5.out) Tryd.underlying54 rfl ZS.out
     simp [results, Tryd.results42, asAddr, hr]
   ·
    rw [if_pos he2] at hF
    have HF := Lh hF
    have hE : ¬ (e2 : Int) = 0 := by omega
    have hE2 : ((e2 : Int) == 0) = false := by rw [beq_eq_false_iff_ne]; exact hE
    have hsl := HSL.out
    clear hF he2
    go_enter Tryd.func42, Tryd.ntmps42
    go_upto_region 6 with (go_at_call 71; rw [← HW.out]; with_reducible refine HC1.out.mono ?_; rintro e w2 ⟨v1, rfl, ho, hb⟩; obtain ⟨A1, c1, rfl, hc1, hnil1, hrd1⟩ := own_form ho; have HB2 := Lh hb; clear ho hb hrd1 hnil1 hc1)
    have K2 := Lh (K1.out.below HB2.out)
    go_upto_region 8 with (go_at_call 72; with_reducible refine (HC2.out _ K2.out.b).mono ?_; rintro e w3 ⟨v2, rfl, ho, hb⟩; obtain ⟨A2, c2, rfl, hc2, hnil2, hrd2⟩ := own_form ho; have HB3 := Lh hb; clear ho hb hrd2 hnil2 hc2)
    have K3 := Lh (K2.out.below HB3.out)
    have Z5 := Lh (show w3.heap[w.heap.size]? = some (.cells ZP.toArray 54 (0, 0)) from K3.out.z)
    go_wp2_with (with_reducible refine wpList_store_row rfl 54 (.tmp 2) (.tmp 40) rfl w.heap.size ZP.toArray rfl rfl 54 _ Z5.out ZS.out rfl ZP_one ?_)
    refine bodyPost_ret (v := .tuple #[.agg ZP.toArray, .int .i64 0, .int .i64 e2]) ?_ rfl ⟨_, by rw [HF.out]; rfl, by rw [HF.out]; exact noPf_V _ _, belowRow K3.out.b (Nat.le_refl _) _⟩
    have hr := run_loadVar_row (P := Tryd.prog) _ w.heap.size 54 54 ZP.toArray (0, 0) _ (heap_setRow w3 w.heap.size ZP.toArray _ 54 Z5.out) Tryd.underlying54 rfl ZS.out
    simp [results, Tryd.results42, asAddr, hr]
  ·
   rw [if_neg (by simp), if_pos hx] at hF
   have HF := Lh hF
   obtain ⟨k, hk⟩ : ∃ k, k = xs.length := ⟨_, rfl⟩
   rw [← hk] at hx HC1
   have hk2 : ¬ (k : Int) = 2 := by omega
   have HK := Lh hk
   clear hF hx hk
   go_enter Tryd.func42, Tryd.ntmps42
   go_upto_region 5 with (go_at_call 71; rw [← HW.out]; with_reducible refine HC1.out.mono ?_; rintro e w2 ⟨v1, rfl, ho, hb⟩; obtain ⟨A1, c1, rfl, hc1, hnil1, hrd1⟩ := own_form ho; have HB2 := Lh hb; clear ho hb hrd1 hnil1 hc1)
   have K2 := Lh (K1.out.below HB2.out)
   have Z5 := Lh (show w2.heap[w.heap.size]? = some (.cells ZP.toArray 54 (0, 0)) from K2.out.z)
   go_wp2_with (with_reducible refine wpList_store_row rfl 54 (.tmp 2) (.tmp 29) rfl w.heap.size ZP.toArray rfl rfl 54 _ Z5.out ZS.out rfl ZP_one ?_)
   refine bodyPost_ret (v := .tuple #[.agg ZP.toArray, .int .i64 0, .int .i64 2]) ?_ rfl ⟨_, by rw [HF.out]; rfl, by rw [HF.out]; exact noPf_V _ _, belowRow K2.out.b (Nat.le_refl _) _⟩
   have hr := run_loadVar_row (P := Tryd.prog) _ w.heap.size 54 54 ZP.toArray (0, 0) _ (heap_setRow w2 w.heap.size ZP.toArray _ 54 Z5.out) Tryd.underlying54 rfl ZS.out
   simp [results, Tryd.results42, asAddr, hr]
 ·
  rw [if_pos he1] at hF
  have HF := Lh hF
  have hE : ¬ (e1 : Int) = 0 := by omega
  have hE2 : ((e1 : Int) == 0) = false := by rw [beq_eq_false_iff_ne]; exact hE
  clear hF he1
  go_enter Tryd.func42, Tryd.ntmps42
  go_upto_region 3 with (go_at_call 71; rw [← HW.out]; with_reducible refine HC1.out.mono ?_; rintro e w2 ⟨v1, rfl, ho, hb⟩; obtain ⟨A1, c1, rfl, hc1, hnil1, hrd1⟩ := own_form ho; have HB2 := Lh hb; clear ho hb hrd1 hnil1 hc1)
  have K2 := Lh (K1.out.below HB2.out)
  have Z5 := Lh (show w2.heap[w.heap.size]? = some (.cells ZP.toArray 54 (0, 0)) from K2.out.z)
  go_wp2_with (with_reducible refine wpList_store_row rfl 54 (.tmp 2) (.tmp 24) rfl w.heap.size ZP.toArray rfl rfl 54 _ Z5.out ZS.out rfl ZP_one ?_)
  refine bodyPost_ret (v := .tuple #[.agg ZP.toArray, .int .i64 0, .int .i64 e1]) ?_ rfl ⟨_, by rw [HF.out]; rfl, by rw [HF.out]; exact noPf_V _ _, belowRow K2.out.b (Nat.le_refl _) _⟩
  have hr := run_loadVar_row (P := Tryd.prog) _ w.heap.size 54 54 ZP.toArray (0, 0) _ (heap_setRow w2 w.heap.size ZP.toArray _ 54 Z5.out) Tryd.underlying54 rfl ZS.out
  simp [results, Tryd.results42, asAddr, hr]
end Go.Proofs.YtofccgkgjcnfbaaDoor
