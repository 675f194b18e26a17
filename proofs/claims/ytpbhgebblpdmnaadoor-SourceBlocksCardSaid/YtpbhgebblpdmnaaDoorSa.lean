/-
  The contract of Same.
  No condition but the lengths.
-/
import Derived.Test.YtpbhgebblpdmnaaDoorZ
import Derived.Test.YtpbhgebblpdmnaaDoorGWkWt
namespace Go.Proofs.YtpbhgebblpdmnaaDoor
open Go.RowKit Wr Src
set_option linter.unusedVariables false
set_option maxRecDepth 100000
def Any : Nat → Prop := fun _ => True
theorem NV.any {w : World} {P : Nat → Prop} {n : Nd} {cs : List Value} (h : NV w P n cs) : NV w Any n cs := NV.keep (fun g _ _ => ⟨rfl, trivial⟩) n cs h
theorem NV.anyBelow {w w' : World} {n : Nd} {cs : List Value} (h : NV w Any n cs) (b : Below w.heap.size w w') : NV w' Any n cs := NV.keep (fun g _ hg => ⟨b.block g hg, trivial⟩) n cs h
def SameT (a b : Nd) : Prop := a = b
def SameP (a b : Nd) (w : World) (en : Ending) (w' : World) : Prop := ∃ r : Bool, en = .returned (.bool r) ∧ (r = true ↔ a = b) ∧ Below w.heap.size w w'
def SameC (a : Nd) : Prop := ∀ b w ca cb, NV w Any a ca → NV w Any b cb → Calls Tryd.prog 31 #[.agg ca.toArray, .agg cb.toArray] w (SameP a b w)
theorem kid_at {w : World} {A : Option Addr} {l : List Nd} {xs : List Value} (hr : RdP w Any A xs) (hl : NL w Any l xs) (hn : l ≠ []) : ∃ g o, A = some ⟨g, o, none⟩ ∧ ∀ i n, l[i]? = some n → ∃ k t z A' m c, n = .mk k t z m ∧ NV w Any n [iv k, sv t, iv z, .slice A' m.length c] ∧ ∀ j u, ([iv k, sv t, iv z, .slice A' m.length c] : List Value)[j]? = some u → w.cell? ((⟨g, o + i * 4, none⟩ : Addr).add j) = some u := by
 have hx : xs ≠ [] := by
  intro e
  have := NL.len _ _ hl
  rw [e] at this
  simp only [List.length_nil] at this
  exact hn (List.eq_nil_of_length_eq_zero (by omega))
 obtain ⟨g, o, rfl, _, hc⟩ := hr hx
 refine ⟨g, o, rfl, fun i n hi => ?_⟩
 obtain ⟨cs, hv, hcs⟩ := NL.get l xs i n hl hi
 obtain ⟨k, t, z, m⟩ := n
 obtain ⟨A', c, ys, rfl, _⟩ := hv.form
 refine ⟨k, t, z, A', m, c, rfl, hv, fun j u hu => ?_⟩
 rw [Addr.add_lit, Nat.add_assoc]
 have hj : j < 4 := (List.getElem?_eq_some_iff.1 hu).1
 exact hc (i * 4 + j) u ((hcs j hj).trans hu)
set_option maxHeartbeats 4000000 in
theorem same_step (a : Nd) (IH : ∀ x ∈ a.kids, SameC x) : SameC a := by
 intro b w ca cb ha hb
 obtain ⟨ak, at', az, al⟩ := a
 obtain ⟨bk, bt, bz, bl⟩ := b
 obtain ⟨A1, c1, ys1, rfl, _, ha1, ha2, _, ha3, ha4⟩ := ha.form
 obtain ⟨A2, c2, ys2, rfl, _, hb1, hb2, _, hb3, hb4⟩ := hb.form
 obtain ⟨La, hLa⟩ : ∃ n, n = al.length := ⟨_, rfl⟩
 obtain ⟨Lb, hLb⟩ : ∃ n, n = bl.length := ⟨_, rfl⟩
 have HLa := Lh hLa; have HLb := Lh hLb
 unfold NC
 rw [← hLa] at ha1 ha2 ⊢
 rw [← hLb] at hb1 hb2 ⊢
 clear hLa hLb ha hb
 obtain ⟨wb, hwb⟩ : ∃ wb, wb = w.heap.size := ⟨_, rfl⟩
 have HWB := Lh hwb
 have HWb := Lh hwb.symm
 obtain ⟨w1, hw1⟩ : ∃ w1, w1 = w.alloc (.cells #[.int .i64 ak, .string ⟨at'.toArray⟩, .int .i64 az, .slice A1 La c1] 25) := ⟨_, rfl⟩
 obtain ⟨w2, hw2⟩ : ∃ w2, w2 = w1.alloc (.cells #[.int .i64 bk, .string ⟨bt.toArray⟩, .int .i64 bz, .slice A2 Lb c2] 25) := ⟨_, rfl⟩
 have s1 : w1.heap.size = wb + 1 := by rw [hw1, hwb]; simp
 have l1 : Below w.heap.size w w1 := by rw [hw1]; exact (Below.refl _ _).alloc (Nat.le_refl _) _
 have l2 : Below w1.heap.size w1 w2 := by rw [hw2]; exact (Below.refl _ _).alloc (Nat.le_refl _) _
 have L2 := Lh (below_step l1 l2)
 have x1 : Blk w1 wb 25 [iv ak, sv at', iv az, .slice A1 La c1] := by rw [hw1, hwb]; exact Blk.new w _ _
 have X2 := Lh (x1.below l2 x1.lt)
 have Y2 := Lh (show Blk w2 (wb + 1) 25 [iv bk, sv bt, iv bz, .slice A2 Lb c2] by rw [hw2, ← s1]; exact Blk.new w1 _ _)
 have W1 := Lh hw1; have W2 := Lh hw2
 have HA := Lh (And.intro ha3 ha4); have HB := Lh (And.intro hb3 hb4)
 have HIH := Lh IH
 have y0 := X2.out.cell 0; have y1 := X2.out.cell 1; have y2 := X2.out.cell 2; have y3 := X2.out.cell 3
 have z0 := Y2.out.cell 0; have z1 := Y2.out.cell 1; have z2 := Y2.out.cell 2; have z3 := Y2.out.cell 3
 simp only [g0, gs] at y0 y1 y2 y3 z0 z1 z2 z3
 clear hwb hw1 hw2 s1 l1 l2 x1 ha3 ha4 hb3 hb4 IH
 by_cases e0 : ak = bk
 ·
  have e0I : (ak == bk) = true := by rw [beq_iff_eq]; exact e0
  have e0J : (ak != bk) = false := by rw [bne, e0I]; rfl
  have E0 := Lh e0
  clear e0
  by_cases e1 : at' = bt
  ·
   have e1I : (at' == bt) = true := by rw [beq_iff_eq]; exact e1
   have e1J : (at' != bt) = false := by rw [bne, e1I]; rfl
   have E1 := Lh e1
   clear e1
   by_cases e2 : az = bz
   ·
    have e2I : (az == bz) = true := by rw [beq_iff_eq]; exact e2
    have e2J : (az != bz) = false := by rw [bne, e2I]; rfl
    have E2 := Lh e2
    clear e2
    by_cases e3 : La = Lb
    ·
     have e3I : ((La : Int) == (Lb : Int)) = true := by rw [e3, beq_iff_eq]
     have e3J : ((La : Int) != (Lb : Int)) = false := by rw [bne, e3I]; rfl
     have E3 := Lh e3
     clear e3
     go_enter Tryd.func31, Tryd.ntmps31
     go_upto_region 1 with fail
     rw [HWb.out]
     change Code.wp _ _ _ _ ((w.alloc (.cells #[.int .i64 ak, .string ⟨at'.toArray⟩, .int .i64 az, .slice A1 La c1] 25)).alloc (.cells #[.int .i64 bk, .string ⟨bt.toArray⟩, .int .i64 bz, .slice A2 Lb c2] 25))
     rw [← W1.out, ← W2.out]
     go_wp2_with fail
     clear y0 y1 y2 y3 z0 z1 z2 z3 e0I e0J e1I e1J e2I e2J e3I e3J
     go_loopw [37] (fun s37 wr => ∃ i : Nat, i ≤ La ∧ s37 = .int .i64 (i : Int) ∧ Hid (∀ j, j < i → al[j]? = bl[j]?) ∧ Hid (Below w.heap.size w wr) ∧ Hid (Blk wr wb 25 [iv ak, sv at', iv az, .slice A1 La c1]) ∧ Hid (Blk wr (wb + 1) 25 [iv bk, sv bt, iv bz, .slice A2 Lb c2])) (fun s37 _ => La - (intOf s37).toNat)
     case atStart => exact ⟨0, Nat.zero_le _, rfl, Lh (fun j hj => by omega), L2, X2, Y2⟩
     case round =>
      obtain ⟨i, hi, rfl, HJ, Br, XA, XB⟩ := hrel
      rcases Nat.lt_or_ge i La with hlt | hge
      ·
       have hiI : (i : Int) < (La : Int) := by omega
       have hiJ : (i : Int) < (Lb : Int) := by have := E3.out; omega
       obtain ⟨p, hp⟩ : ∃ p, al[i]? = some p := ⟨_, List.getElem?_eq_getElem (by rw [← HLa.out]; exact hlt)⟩
       obtain ⟨q, hq⟩ : ∃ q, bl[i]? = some q := ⟨_, List.getElem?_eq_getElem (by rw [← HLb.out, ← E3.out]; exact hlt)⟩
       have hkp : ∀ g, Any g → g < w.heap.size → wr.heap[g]? = w.heap[g]? ∧ Any g := fun g h1 h2 => ⟨Br.out.block g h2, trivial⟩
       obtain ⟨ga, oa, hA, hka⟩ := kid_at (HA.out.1.keep hkp) (NL.keep hkp _ _ HA.out.2) (by rintro rfl; simp at hp)
       obtain ⟨gb, ob, hB, hkb⟩ := kid_at (HB.out.1.keep hkp) (NL.keep hkp _ _ HB.out.2) (by rintro rfl; simp at hq)
       obtain ⟨pk, pt', pz, A3, pl, c3, rfl, vp, hca⟩ := hka i p hp
       obtain ⟨qk, qt, qz, A4, ql, c4, rfl, vq, hcb⟩ := hkb i q hq
       subst hA hB
       have HEq := Lh (show Nd.mk pk pt' pz pl = .mk qk qt qz ql → ∀ j, j < i + 1 → al[j]? = bl[j]? from fun e j hj => by
        rcases Nat.lt_or_ge j i with h1 | h1
        ·
         exact HJ.out j h1
        ·
         obtain rfl : j = i := by omega
         rw [hp, hq, e])
       have HNe := Lh (show ¬ Nd.mk pk pt' pz pl = .mk qk qt qz ql → (false = true ↔ Nd.mk ak at' az al = .mk bk bt bz bl) from fun e => ⟨fun e => (by cases e), fun e2 => by
        injection e2 with _ _ _ e2
        rw [e2, hq] at hp
        injection hp with hp
        exact absurd hp.symm e⟩)
       have HIp := Lh (HIH.out _ (List.mem_of_getElem? hp))
       have VP := Lh vp; have VQ := Lh vq
       have CA := Lh hca; have CB := Lh hcb
       have hc1I : (La : Int) ≤ (c1 : Int) := by omega
       have hc2I : (Lb : Int) ≤ (c2 : Int) := by omega
       clear hp hq hkp hka hkb vp vq hca hcb HJ
       go_wp2_with fail
       refine wp_region_any (by kernel_rfl) ?_
       change wpAny _ _ _ _ _ _ _ (World.drew wr)
       have Bd := Lh (Br.out.drew)
       have XA := Lh (XA.out.drew); have XB := Lh (XB.out.drew)
       have CA := Lh (show ∀ j u, ([iv pk, sv pt', iv pz, .slice A3 pl.length c3] : List Value)[j]? = some u → (World.drew wr).cell? ((⟨ga, oa + i * 4, none⟩ : Addr).add j) = some u from CA.out)
       have CB := Lh (show ∀ j u, ([iv qk, sv qt, iv qz, .slice A4 ql.length c4] : List Value)[j]? = some u → (World.drew wr).cell? ((⟨gb, ob + i * 4, none⟩ : Addr).add j) = some u from CB.out)
       have HC := Lh (HIp.out _ (World.drew wr) _ _ (VP.out.anyBelow ((Below.refl _ _).drew)) (VQ.out.anyBelow ((Below.refl _ _).drew)))
       generalize World.drew wr = wdr at Bd XA XB CA CB HC ⊢
       refine tg 0 (.pointer (some ⟨wb, 3, none⟩)) ?_
       refine tg 2 (.int .i64 (i : Int)) ?_
       refine tg 5 (.pointer (some ⟨wb + 1, 3, none⟩)) ?_
       refine tg 7 (.int .i64 (i : Int)) ?_
       refine rm [1, 6] (ac (fun K hK => ?_) (ac (fun K hK => ?_) AllReady.nil))
       ·
        have y3 := XA.out.cell 3
        simp only [g0, gs] at y3
        go_simp
        clear y3
        try (refine hk hK ?_; clear hK K)
        refine tg 3 (.pointer (some ⟨ga, oa + i * 4, none⟩)) ?_
        refine rm [4, 6] (ac (fun K hK => ?_) (ac (fun K hK => ?_) AllReady.nil))
        ·
         refine wp_load_at 25 (.tmp 43) rfl ⟨ga, oa + i * 4, none⟩ rfl [iv pk, sv pt', iv pz, .slice A3 pl.length c3] _ CA.out Tryd.underlying25 rfl size25 (hK _ _ ?_)
         clear hK K
         try simp only [zp, zn, zu, zv, zw]
         refine r1 6 (fun K hK => ?_)
         have y3 := XB.out.cell 3
         simp only [g0, gs] at y3
         go_simp
         clear y3
         try (refine hk hK ?_; clear hK K)
         refine tg 8 (.pointer (some ⟨gb, ob + i * 4, none⟩)) ?_
         refine r1 9 (fun K hK => ?_)
         refine wp_load_at 25 (.tmp 48) rfl ⟨gb, ob + i * 4, none⟩ rfl [iv qk, sv qt, iv qz, .slice A4 ql.length c4] _ CB.out Tryd.underlying25 rfl size25 (hK _ _ ?_)
         clear hK K
         try simp only [zp, zn, zu, zv, zw]
         refine r1 10 (fun K hK => ?_)
         go_simp
         refine HC.out.mono ?_
         rintro e w5 ⟨r, rfl, hr, b5⟩
         have HR := Lh hr
         have B5 := Lh (Bd.out.trans (b5.mono Bd.out.size))
         have XA5 := Lh (XA.out.below b5 XA.out.lt)
         have XB5 := Lh (XB.out.below b5 XB.out.lt)
         clear hr b5 HC
         go_wp2_with fail
         try (refine hk hK ?_; clear hK K)
         refine tg 11 (.bool (!r)) ?_
         refine wpAny_done (by kernel_rfl) ?_ _
         try simp only [zp, zn, zu, zv, zw]
         cases r with
         | true =>
          go_wp2_with fail
          go_roundw
          case rel => exact ⟨i + 1, by omega, by simp, Lh (HEq.out (HR.out.1 rfl)), B5, XA5, XB5⟩
          case measure => simp only [intOf]; omega
         | false =>
          go_wp2_with fail
          exact bodyPost_ret (v := .bool false) (by simp [results]) rfl ⟨false, rfl, HNe.out (fun e => by have := HR.out.2 e; cases this), B5.out⟩
        ·
         have y3 := XB.out.cell 3
         simp only [g0, gs] at y3
         go_simp
         clear y3
         try (refine hk hK ?_; clear hK K)
         refine tg 8 (.pointer (some ⟨gb, ob + i * 4, none⟩)) ?_
         refine rm [4, 9] (ac (fun K hK => ?_) (ac (fun K hK => ?_) AllReady.nil))
         ·
          refine wp_load_at 25 (.tmp 43) rfl ⟨ga, oa + i * 4, none⟩ rfl [iv pk, sv pt', iv pz, .slice A3 pl.length c3] _ CA.out Tryd.underlying25 rfl size25 (hK _ _ ?_)
          clear hK K
          try simp only [zp, zn, zu, zv, zw]
          refine r1 9 (fun K hK => ?_)
          refine wp_load_at 25 (.tmp 48) rfl ⟨gb, ob + i * 4, none⟩ rfl [iv qk, sv qt, iv qz, .slice A4 ql.length c4] _ CB.out Tryd.underlying25 rfl size25 (hK _ _ ?_)
          clear hK K
          try simp only [zp, zn, zu, zv, zw]
          refine r1 10 (fun K hK => ?_)
          go_simp
          refine HC.out.mono ?_
          rintro e w5 ⟨r, rfl, hr, b5⟩
          have HR := Lh hr
          have B5 := Lh (Bd.out.trans (b5.mono Bd.out.size))
          have XA5 := Lh (XA.out.below b5 XA.out.lt)
          have XB5 := Lh (XB.out.below b5 XB.out.lt)
          clear hr b5 HC
          go_wp2_with fail
          try (refine hk hK ?_; clear hK K)
          refine tg 11 (.bool (!r)) ?_
          refine wpAny_done (by kernel_rfl) ?_ _
          try simp only [zp, zn, zu, zv, zw]
          cases r with
          | true =>
           go_wp2_with fail
           go_roundw
           case rel => exact ⟨i + 1, by omega, by simp, Lh (HEq.out (HR.out.1 rfl)), B5, XA5, XB5⟩
           case measure => simp only [intOf]; omega
          | false =>
           go_wp2_with fail
           exact bodyPost_ret (v := .bool false) (by simp [results]) rfl ⟨false, rfl, HNe.out (fun e => by have := HR.out.2 e; cases this), B5.out⟩
         ·
          refine wp_load_at 25 (.tmp 48) rfl ⟨gb, ob + i * 4, none⟩ rfl [iv qk, sv qt, iv qz, .slice A4 ql.length c4] _ CB.out Tryd.underlying25 rfl size25 (hK _ _ ?_)
          clear hK K
          try simp only [zp, zn, zu, zv, zw]
          refine r1 4 (fun K hK => ?_)
          refine wp_load_at 25 (.tmp 43) rfl ⟨ga, oa + i * 4, none⟩ rfl [iv pk, sv pt', iv pz, .slice A3 pl.length c3] _ CA.out Tryd.underlying25 rfl size25 (hK _ _ ?_)
          clear hK K
          try simp only [zp, zn, zu, zv, zw]
          refine r1 10 (fun K hK => ?_)
          go_simp
          refine HC.out.mono ?_
          rintro e w5 ⟨r, rfl, hr, b5⟩
          have HR := Lh hr
          have B5 := Lh (Bd.out.trans (b5.mono Bd.out.size))
          have XA5 := Lh (XA.out.below b5 XA.out.lt)
          have XB5 := Lh (XB.out.below b5 XB.out.lt)
          clear hr b5 HC
          go_wp2_with fail
          try (refine hk hK ?_; clear hK K)
          refine tg 11 (.bool (!r)) ?_
          refine wpAny_done (by kernel_rfl) ?_ _
          try simp only [zp, zn, zu, zv, zw]
          cases r with
          | true =>
           go_wp2_with fail
           go_roundw
           case rel => exact ⟨i + 1, by omega, by simp, Lh (HEq.out (HR.out.1 rfl)), B5, XA5, XB5⟩
           case measure => simp only [intOf]; omega
          | false =>
           go_wp2_with fail
           exact bodyPost_ret (v := .bool false) (by simp [results]) rfl ⟨false, rfl, HNe.out (fun e => by have := HR.out.2 e; cases this), B5.out⟩
       ·
        have y3 := XB.out.cell 3
        simp only [g0, gs] at y3
        go_simp
        clear y3
        try (refine hk hK ?_; clear hK K)
        refine tg 8 (.pointer (some ⟨gb, ob + i * 4, none⟩)) ?_
        refine rm [1, 9] (ac (fun K hK => ?_) (ac (fun K hK => ?_) AllReady.nil))
        ·
         have y3 := XA.out.cell 3
         simp only [g0, gs] at y3
         go_simp
         clear y3
         try (refine hk hK ?_; clear hK K)
         refine tg 3 (.pointer (some ⟨ga, oa + i * 4, none⟩)) ?_
         refine rm [4, 9] (ac (fun K hK => ?_) (ac (fun K hK => ?_) AllReady.nil))
         ·
          refine wp_load_at 25 (.tmp 43) rfl ⟨ga, oa + i * 4, none⟩ rfl [iv pk, sv pt', iv pz, .slice A3 pl.length c3] _ CA.out Tryd.underlying25 rfl size25 (hK _ _ ?_)
          clear hK K
          try simp only [zp, zn, zu, zv, zw]
          refine r1 9 (fun K hK => ?_)
          refine wp_load_at 25 (.tmp 48) rfl ⟨gb, ob + i * 4, none⟩ rfl [iv qk, sv qt, iv qz, .slice A4 ql.length c4] _ CB.out Tryd.underlying25 rfl size25 (hK _ _ ?_)
          clear hK K
          try simp only [zp, zn, zu, zv, zw]
          refine r1 10 (fun K hK => ?_)
          go_simp
          refine HC.out.mono ?_
          rintro e w5 ⟨r, rfl, hr, b5⟩
          have HR := Lh hr
          have B5 := Lh (Bd.out.trans (b5.mono Bd.out.size))
          have XA5 := Lh (XA.out.below b5 XA.out.lt)
          have XB5 := Lh (XB.out.below b5 XB.out.lt)
          clear hr b5 HC
          go_wp2_with fail
          try (refine hk hK ?_; clear hK K)
          refine tg 11 (.bool (!r)) ?_
          refine wpAny_done (by kernel_rfl) ?_ _
          try simp only [zp, zn, zu, zv, zw]
          cases r with
          | true =>
           go_wp2_with fail
           go_roundw
           case rel => exact ⟨i + 1, by omega, by simp, Lh (HEq.out (HR.out.1 rfl)), B5, XA5, XB5⟩
           case measure => simp only [intOf]; omega
          | false =>
           go_wp2_with fail
           exact bodyPost_ret (v := .bool false) (by simp [results]) rfl ⟨false, rfl, HNe.out (fun e => by have := HR.out.2 e; cases this), B5.out⟩
         ·
          refine wp_load_at 25 (.tmp 48) rfl ⟨gb, ob + i * 4, none⟩ rfl [iv qk, sv qt, iv qz, .slice A4 ql.length c4] _ CB.out Tryd.underlying25 rfl size25 (hK _ _ ?_)
          clear hK K
          try simp only [zp, zn, zu, zv, zw]
          refine r1 4 (fun K hK => ?_)
          refine wp_load_at 25 (.tmp 43) rfl ⟨ga, oa + i * 4, none⟩ rfl [iv pk, sv pt', iv pz, .slice A3 pl.length c3] _ CA.out Tryd.underlying25 rfl size25 (hK _ _ ?_)
          clear hK K
          try simp only [zp, zn, zu, zv, zw]
          refine r1 10 (fun K hK => ?_)
          go_simp
          refine HC.out.mono ?_
          rintro e w5 ⟨r, rfl, hr, b5⟩
          have HR := Lh hr
          have B5 := Lh (Bd.out.trans (b5.mono Bd.out.size))
          have XA5 := Lh (XA.out.below b5 XA.out.lt)
          have XB5 := Lh (XB.out.below b5 XB.out.lt)
          clear hr b5 HC
          go_wp2_with fail
          try (refine hk hK ?_; clear hK K)
          refine tg 11 (.bool (!r)) ?_
          refine wpAny_done (by kernel_rfl) ?_ _
          try simp only [zp, zn, zu, zv, zw]
          cases r with
          | true =>
           go_wp2_with fail
           go_roundw
           case rel => exact ⟨i + 1, by omega, by simp, Lh (HEq.out (HR.out.1 rfl)), B5, XA5, XB5⟩
           case measure => simp only [intOf]; omega
          | false =>
           go_wp2_with fail
           exact bodyPost_ret (v := .bool false) (by simp [results]) rfl ⟨false, rfl, HNe.out (fun e => by have := HR.out.2 e; cases this), B5.out⟩
        ·
         refine wp_load_at 25 (.tmp 48) rfl ⟨gb, ob + i * 4, none⟩ rfl [iv qk, sv qt, iv qz, .slice A4 ql.length c4] _ CB.out Tryd.underlying25 rfl size25 (hK _ _ ?_)
         clear hK K
         try simp only [zp, zn, zu, zv, zw]
         refine r1 1 (fun K hK => ?_)
         have y3 := XA.out.cell 3
         simp only [g0, gs] at y3
         go_simp
         clear y3
         try (refine hk hK ?_; clear hK K)
         refine tg 3 (.pointer (some ⟨ga, oa + i * 4, none⟩)) ?_
         refine r1 4 (fun K hK => ?_)
         refine wp_load_at 25 (.tmp 43) rfl ⟨ga, oa + i * 4, none⟩ rfl [iv pk, sv pt', iv pz, .slice A3 pl.length c3] _ CA.out Tryd.underlying25 rfl size25 (hK _ _ ?_)
         clear hK K
         try simp only [zp, zn, zu, zv, zw]
         refine r1 10 (fun K hK => ?_)
         go_simp
         refine HC.out.mono ?_
         rintro e w5 ⟨r, rfl, hr, b5⟩
         have HR := Lh hr
         have B5 := Lh (Bd.out.trans (b5.mono Bd.out.size))
         have XA5 := Lh (XA.out.below b5 XA.out.lt)
         have XB5 := Lh (XB.out.below b5 XB.out.lt)
         clear hr b5 HC
         go_wp2_with fail
         try (refine hk hK ?_; clear hK K)
         refine tg 11 (.bool (!r)) ?_
         refine wpAny_done (by kernel_rfl) ?_ _
         try simp only [zp, zn, zu, zv, zw]
         cases r with
         | true =>
          go_wp2_with fail
          go_roundw
          case rel => exact ⟨i + 1, by omega, by simp, Lh (HEq.out (HR.out.1 rfl)), B5, XA5, XB5⟩
          case measure => simp only [intOf]; omega
         | false =>
          go_wp2_with fail
          exact bodyPost_ret (v := .bool false) (by simp [results]) rfl ⟨false, rfl, HNe.out (fun e => by have := HR.out.2 e; cases this), B5.out⟩
      ·
       obtain rfl : i = La := by omega
       have HT := Lh (show SameT (Nd.mk ak at' az al) (.mk bk bt bz bl) from by
        have : al = bl := List.ext_getElem? fun j => by
         rcases Nat.lt_or_ge j i with h1 | h1
         ·
          exact HJ.out j h1
         ·
          rw [List.getElem?_eq_none (by rw [← HLa.out]; exact h1), List.getElem?_eq_none (by rw [← HLb.out, ← E3.out]; exact h1)]
        unfold SameT; rw [E0.out, E1.out, E2.out, this])
       clear HJ
       go_wp2_with fail
       exact bodyPost_ret (v := .bool true) (by simp [results]) rfl ⟨true, rfl, ⟨fun _ => HT.out, fun _ => rfl⟩, Br.out⟩
    ·
     have HF := Lh (show (false = true ↔ Nd.mk ak at' az al = .mk bk bt bz bl) from ⟨fun e => (by cases e), fun e => by injection e with _ _ _ e; exact absurd (by rw [HLa.out, HLb.out, e]) e3⟩)
     have e3I : ((La : Int) == (Lb : Int)) = false := by rw [beq_eq_false_iff_ne]; omega
     have e3J : ((La : Int) != (Lb : Int)) = true := by rw [bne, e3I]; rfl
     clear e3
     go_enter Tryd.func31, Tryd.ntmps31
     go_upto_region 1 with fail
     rw [HWb.out]
     change Code.wp _ _ _ _ ((w.alloc (.cells #[.int .i64 ak, .string ⟨at'.toArray⟩, .int .i64 az, .slice A1 La c1] 25)).alloc (.cells #[.int .i64 bk, .string ⟨bt.toArray⟩, .int .i64 bz, .slice A2 Lb c2] 25))
     rw [← W1.out, ← W2.out]
     go_wp2_with fail
     exact bodyPost_ret (v := .bool false) (by simp [results]) rfl ⟨false, rfl, HF.out, L2.out⟩
   ·
    have HF := Lh (show (false = true ↔ Nd.mk ak at' az al = .mk bk bt bz bl) from ⟨fun e => (by cases e), fun e => by injection e with _ _ e _; exact absurd e e2⟩)
    have e2I : (az == bz) = false := by rw [beq_eq_false_iff_ne]; exact e2
    have e2J : (az != bz) = true := by rw [bne, e2I]; rfl
    clear e2
    go_enter Tryd.func31, Tryd.ntmps31
    go_upto_region 1 with fail
    rw [HWb.out]
    change Code.wp _ _ _ _ ((w.alloc (.cells #[.int .i64 ak, .string ⟨at'.toArray⟩, .int .i64 az, .slice A1 La c1] 25)).alloc (.cells #[.int .i64 bk, .string ⟨bt.toArray⟩, .int .i64 bz, .slice A2 Lb c2] 25))
    rw [← W1.out, ← W2.out]
    go_wp2_with fail
    exact bodyPost_ret (v := .bool false) (by simp [results]) rfl ⟨false, rfl, HF.out, L2.out⟩
  ·
   have HF := Lh (show (false = true ↔ Nd.mk ak at' az al = .mk bk bt bz bl) from ⟨fun e => (by cases e), fun e => by injection e with _ e _ _; exact absurd e e1⟩)
   have e1I : (at' == bt) = false := by rw [beq_eq_false_iff_ne]; exact e1
   have e1J : (at' != bt) = true := by rw [bne, e1I]; rfl
   clear e1
   go_enter Tryd.func31, Tryd.ntmps31
   go_upto_region 1 with fail
   rw [HWb.out]
   change Code.wp _ _ _ _ ((w.alloc (.cells #[.int .i64 ak, .string ⟨at'.toArray⟩, .int .i64 az, .slice A1 La c1] 25)).alloc (.cells #[.int .i64 bk, .string ⟨bt.toArray⟩, .int .i64 bz, .slice A2 Lb c2] 25))
   rw [← W1.out, ← W2.out]
   go_wp2_with fail
   exact bodyPost_ret (v := .bool false) (by simp [results]) rfl ⟨false, rfl, HF.out, L2.out⟩
 ·
  have HF := Lh (show (false = true ↔ Nd.mk ak at' az al = .mk bk bt bz bl) from ⟨fun e => (by cases e), fun e => by injection e with e _ _ _; exact absurd e e0⟩)
  have e0I : (ak == bk) = false := by rw [beq_eq_false_iff_ne]; exact e0
  have e0J : (ak != bk) = true := by rw [bne, e0I]; rfl
  clear e0
  go_enter Tryd.func31, Tryd.ntmps31
  go_upto_region 1 with fail
  rw [HWb.out]
  change Code.wp _ _ _ _ ((w.alloc (.cells #[.int .i64 ak, .string ⟨at'.toArray⟩, .int .i64 az, .slice A1 La c1] 25)).alloc (.cells #[.int .i64 bk, .string ⟨bt.toArray⟩, .int .i64 bz, .slice A2 Lb c2] 25))
  rw [← W1.out, ← W2.out]
  go_wp2_with fail
  exact bodyPost_ret (v := .bool false) (by simp [results]) rfl ⟨false, rfl, HF.out, L2.out⟩
theorem same_any : ∀ (n : Nat) (a : Nd), SizeOf.sizeOf a ≤ n → SameC a
 | 0, a, h => by cases a; simp at h
 | n + 1, a, h => same_step a (fun x hx => same_any n x (by
  obtain ⟨k, t, z, l⟩ := a
  have h1 := List.sizeOf_lt_of_mem (show x ∈ l from hx)
  have h2 := Nd.mk.sizeOf_spec k t z l
  omega))
theorem same_of {w : World} {P Q : Nat → Prop} {a b : Nd} {ca cb : List Value} (ha : NV w P a ca) (hb : NV w Q b cb) : Calls Tryd.prog 31 #[.agg ca.toArray, .agg cb.toArray] w (SameP a b w) := same_any _ a (Nat.le_refl _) b w ca cb ha.any hb.any
end Go.Proofs.YtpbhgebblpdmnaaDoor
