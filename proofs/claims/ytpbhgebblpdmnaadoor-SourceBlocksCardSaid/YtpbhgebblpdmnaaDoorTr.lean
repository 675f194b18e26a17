/-
  The generator: a definition.
  No condition but the lengths.
-/
import Derived.Test.YtpbhgebblpdmnaaDoorZ
import Derived.Test.YtpbhgebblpdmnaaDoorGOhOiOnGx
import Derived.OrdersHeld
namespace Go.Proofs.YtpbhgebblpdmnaaDoor
open Go.RowKit Wr Src
set_option linter.unusedVariables false
set_option maxRecDepth 100000
section
variable {w : World} {P : Nat → Prop} {v : Value} {L0 : List Int}
set_option maxHeartbeats 16000000 in
theorem tree_any (h : IL w P v L0) : Calls Tryd.prog 5 #[v] w (TOut w (TF (L0.take 48))) := by
 have z1 := zero25
 have z2 : ∀ W : World, (zeroValue 41).run Tryd.prog W = .ok (.agg #[.slice none 0 0, .int .i64 0]) W := fun _ => by kernel_rfl
 obtain ⟨A, c, hv, hcc, hrd⟩ := h.f
 subst hv
 obtain ⟨L, hL⟩ : ∃ L, L = L0.take 48 := ⟨_, rfl⟩
 obtain ⟨N0, hN0⟩ : ∃ n, n = L0.length := ⟨_, rfl⟩
 rw [← hL, ← hN0]
 have hLN : L.length = min 48 N0 := by rw [hL, hN0, List.length_take]
 obtain ⟨rb, hrb⟩ : ∃ rb, rb = w.heap.size := ⟨_, rfl⟩
 obtain ⟨g, hg⟩ : ∃ g, g = rb + 1 := ⟨_, rfl⟩
 have HRb := Lh hrb.symm
 have HGe := Lh hg.symm
 obtain ⟨wa, hwa⟩ : ∃ w0, w0 = w.alloc (.cells #[.int .i64 0, .string ⟨#[]⟩, .int .i64 0, .slice none 0 0] 25) := ⟨_, rfl⟩
 have la : Below w.heap.size w wa := by rw [hwa]; exact (Below.refl _ _).alloc (Nat.le_refl _) _
 have Za : Blk wa rb 25 Z4 := by rw [hwa, hrb]; exact Blk.new w _ _
 have HSa : wa.heap.size = g := by rw [hwa, hg, hrb]; simp
 obtain ⟨w0, hw0⟩ : ∃ w0, w0 = wa.alloc (.cells #[.slice A L.length c, .int .i64 0] 41) := ⟨_, rfl⟩
 have l0 : Below wa.heap.size wa w0 := by rw [hw0]; exact (Below.refl _ _).alloc (Nat.le_refl _) _
 have B0 : Blk w0 g 41 [.slice A L.length c, nv 0] := by rw [hw0, ← HSa]; exact Blk.new wa _ _
 have l1 : Below w.heap.size w w0 := below_step la l0
 have hIL : IL w0 (fun j => j < g) (.slice A L.length c) L := by
  refine ⟨⟨A, c, rfl, by omega, ?_⟩, fun z hz => h.z z (by rw [hL] at hz; exact List.mem_of_mem_take hz), by omega⟩
  intro hn
  obtain ⟨b, o, e, hb, hcell⟩ := hrd (by
   intro e
   apply hn
   have e2 : L0 = [] := by simpa using e
   rw [hL, e2]; rfl)
  have hb0 : b < w.heap.size := by
   have hne : 0 < L0.length := by
    rcases Nat.eq_zero_or_pos L0.length with e3 | e3
    ·
     exact absurd (by rw [hL, List.eq_nil_of_length_eq_zero e3]; rfl) hn
    ·
     exact e3
   exact World.block_lt_of_cell? w ⟨b, o + 0, none⟩ (hcell 0 (iv (L0[0]'hne)) (by rw [List.getElem?_map, List.getElem?_eq_getElem hne]; rfl))
  refine ⟨b, o, e, by omega, fun j u hu => ?_⟩
  refine (World.cell?_of_block (a := ⟨b, o + j, none⟩) (l1.block b hb0)).trans (hcell j u ?_)
  rw [hL, List.map_take, List.getElem?_take] at hu
  split at hu
  ·
   exact hu
  ·
   cases hu
 have M0 := Lh (show MS g w0 (.slice A L.length c) L 0 from ⟨B0, hIL⟩)
 have R0 := Lh (show Blk w0 rb 25 Z4 from Za.below l0 Za.lt)
 have K0 := Lh l1
 have HRG := Lh (show rb = w.heap.size ∧ rb < g from ⟨hrb, by omega⟩)
 have HWa := Lh hwa
 have HW0 := Lh hw0
 have HL48 := Lh (show L.length ≤ 48 by omega)
 have HLe := Lh hL.symm
 have hcI : min (N0 : Int) 48 ≤ (c : Int) := by omega
 have HLm := Lh (show (min (N0 : Int) 48).toNat = L.length by omega)
 clear hrd h hL hN0 hrb hg hwa la Za HSa hw0 l0 B0 l1 hIL hLN hcc
 go_enter Tryd.func5, Tryd.ntmps5
 go_upto_region 2 with fail
 rw [HLm.out, HRb.out, HGe.out, ← HWa.out, ← HW0.out]
 go_cut [4] (fun s4 wx => ∃ (n1 r : Nat) (kd : Int) (t : Str), s4 = pt n1 ∧ Hid (r = tkN L 0 10) ∧ Hid (kindL[r]? = some kd) ∧ Hid (t ∈ calledL) ∧ Hid (MS g wx (.slice A L.length c) L 2) ∧ Hid (Blk wx rb 25 Z4) ∧ Hid (Blk wx n1 25 (NC kd t 0 (.slice none 0 0))) ∧ Hid (Below w.heap.size w wx) ∧ Hid (g < n1))
 case first =>
  have HCt : Hid (∀ W, MS g W (.slice A L.length c) L 0 → Calls Tryd.prog 13 #[pt g, nv 10] W fun en w' => ∃ r : Nat, r < 10 ∧ TkF L 0 10 r ∧ en = .returned (nv r) ∧ MS g w' (.slice A L.length c) L 1 ∧ Kp (fun k => k = g) W w') := Lh (fun W hW => take_any hW (by omega) 10 (by omega) (by omega))
  have HCc : Hid (∀ W, MS g W (.slice A L.length c) L 1 → Calls Tryd.prog 14 #[pt g] W fun en w' => ∃ t : Str, en = .returned (sv t) ∧ t ∈ calledL ∧ (L.length ≤ 1 → t = [97]) ∧ MS g w' (.slice A L.length c) L 2 ∧ Kp (fun k => k = g) W w') := Lh (fun W hW => called_any hW (by omega))
  refine wp_region_any (by kernel_rfl) ?_
  change wpAny _ _ _ _ _ _ _ (World.drew w0)
  have D : DS g rb w (World.drew w0) (.slice A L.length c) L 0 none none := ⟨M0.out.below ((Below.refl _ _).drew), R0.out.drew, below_step K0.out ((Below.refl _ _).drew), (fun _ e => by cases e), (fun _ e => by cases e), HRG.out⟩
  generalize World.drew w0 = W at D ⊢
  refine wpAny_held (fun G HG => ?_)
  have HJ : Hid (∀ (W : World) (ib n1 r : Nat) (kd : Int) (t : Str), Hid (r = tkN L 0 10) → Hid (kindL[r]? = some kd) → Hid (t ∈ calledL) → DS g rb w W (.slice A L.length c) L 2 (some ib) (some n1) → G 1 #[true, true, true, true, true, true, true, true, true, false] { tmps := #[.slice A N0 c, undef, pt rb, pt g, pt n1, undef, undef, undef, undef, .slice A N0 c, .slice A N0 c, .int .i64 (N0 : Int), .int .i64 (min (N0 : Int) 48), .slice A L.length c, .agg #[.slice A L.length c, .int .i64 0], pt g, .slice (some ⟨ib, 0, none⟩) 10 10, pt g, nv r, .pointer (some ⟨ib, r, none⟩), iv kd, pt g, sv t, .agg #[iv kd, sv t, .int .i64 0, .slice none 0 0], undef, undef, undef, undef, undef, undef, undef, undef, undef, undef, undef, undef, undef, undef, undef, undef, undef, undef, undef, undef, undef, undef, undef, undef, undef, undef, undef, undef, undef, undef, undef, undef, undef, undef, undef, undef, undef, undef, undef, undef, undef, undef, undef, undef, undef, undef, undef, undef, undef, undef, undef, undef, undef, undef, undef, undef, undef, undef, undef], defers := [] } W) := Lh (by
   intro W ib n1 r kd t HRr HKd HTt D
   rw [HG.out]
   refine r1 9 (fun K hK => ?_)
   refine wp_store_row 25 (.tmp 4) (.tmp 23) rfl n1 #[iv kd, sv t, .int .i64 0, .slice none 0 0] rfl rfl _ _ (D.n n1 rfl).1 (by rw [size25]; rfl) rfl (by simp [Value.oneCell']) (hK _ _ ?_)
   clear hK K
   have DL := Lh (D.last (kd := kd) (t := t))
   generalize World.setRow _ n1 #[iv kd, sv t, .int .i64 0, .slice none 0 0] = wq at DL ⊢
   try (refine hk hK ?_; clear hK K)
   refine wpAny_done (by kernel_rfl) ?_ _
   try simp only [zp, zn, zu, zv, zw]
   go_wp2_with fail
   go_meet
   exact ⟨n1, r, kd, t, rfl, HRr, HKd, HTt, Lh DL.out.1, Lh DL.out.2.1, Lh DL.out.2.2.1, Lh DL.out.2.2.2.1, Lh DL.out.2.2.2.2⟩
   )
  rw [HG.out]
  refine tg 1 (pt g) ?_
  refine tg 5 (pt g) ?_
  refine rm [0, 2, 8] (ac (fun K hK => ?_) (ac (fun K hK => ?_) (ac (fun K hK => ?_) AllReady.nil)))
  ·
   refine wp_bs (vs := #[(0, .int .i64 5), (1, .int .i64 6), (2, .int .i64 5), (3, .int .i64 6), (4, .int .i64 5), (5, .int .i64 0), (6, .int .i64 1), (7, .int .i64 2), (8, .int .i64 3), (9, .int .i64 4)]) rfl (by simp [Act.eval]) (build10 _) ?_
   obtain ⟨W, ib, hW, hib, D⟩ := D.ints
   rw [hW, hib]
   clear hW hib
   try (refine hk hK ?_; clear hK K)
   refine rm [2, 8] (ac (fun K hK => ?_) (ac (fun K hK => ?_) AllReady.nil))
   ·
    go_simp
    refine (HCt.out _ D.m).mono ?_
    rintro e W ⟨r, hr, hf, rfl, hm, hk⟩
    have D := D.call hm hk
    have HRr := Lh hf.eq
    have hrI : (r : Int) < 10 := by omega
    obtain ⟨kd, hkd⟩ : ∃ k, kindL[r]? = some k := ⟨_, List.getElem?_eq_getElem (show r < kindL.length from hr)⟩
    have HKd := Lh hkd
    clear hr hf hm hk hkd
    go_wp2_with fail
    try (refine hk hK ?_; clear hK K)
    refine tg 3 (.pointer (some ⟨ib, r, none⟩)) ?_
    refine rm [4, 6, 8] (ac (fun K hK => ?_) (ac (fun K hK => ?_) (ac (fun K hK => ?_) AllReady.nil)))
    ·
     have cz := D.cell HKd.out
     go_simp
     clear cz
     try (refine hk hK ?_; clear hK K)
     refine rm [6, 8] (ac (fun K hK => ?_) (ac (fun K hK => ?_) AllReady.nil))
     ·
      go_simp
      refine (HCc.out _ D.m).mono ?_
      rintro e W ⟨t, rfl, ht, _, hm, hk⟩
      have D := D.call hm hk
      have HTt := Lh ht
      have htl : t.length ≤ 16 := (called_ok t ht).2
      clear ht hm hk
      go_wp2_with fail
      try (refine hk hK ?_; clear hK K)
      refine tg 7 (.agg #[iv kd, sv t, .int .i64 0, .slice none 0 0]) ?_
      refine r1 8 (fun K hK => ?_)
      go_simp
      obtain ⟨W, n1, hW, hn1, D⟩ := D.node
      rw [hW, hn1]
      clear hW hn1
      try (refine hk hK ?_; clear hK K)
      rw [← HG.out]
      exact HJ.out W ib n1 r kd t HRr HKd HTt D
     ·
      go_simp
      obtain ⟨W, n1, hW, hn1, D⟩ := D.node
      rw [hW, hn1]
      clear hW hn1
      try (refine hk hK ?_; clear hK K)
      refine r1 6 (fun K hK => ?_)
      go_simp
      refine (HCc.out _ D.m).mono ?_
      rintro e W ⟨t, rfl, ht, _, hm, hk⟩
      have D := D.call hm hk
      have HTt := Lh ht
      have htl : t.length ≤ 16 := (called_ok t ht).2
      clear ht hm hk
      go_wp2_with fail
      try (refine hk hK ?_; clear hK K)
      refine tg 7 (.agg #[iv kd, sv t, .int .i64 0, .slice none 0 0]) ?_
      rw [← HG.out]
      exact HJ.out W ib n1 r kd t HRr HKd HTt D
    ·
     go_simp
     refine (HCc.out _ D.m).mono ?_
     rintro e W ⟨t, rfl, ht, _, hm, hk⟩
     have D := D.call hm hk
     have HTt := Lh ht
     have htl : t.length ≤ 16 := (called_ok t ht).2
     clear ht hm hk
     go_wp2_with fail
     try (refine hk hK ?_; clear hK K)
     refine rm [4, 8] (ac (fun K hK => ?_) (ac (fun K hK => ?_) AllReady.nil))
     ·
      have cz := D.cell HKd.out
      go_simp
      clear cz
      try (refine hk hK ?_; clear hK K)
      refine tg 7 (.agg #[iv kd, sv t, .int .i64 0, .slice none 0 0]) ?_
      refine r1 8 (fun K hK => ?_)
      go_simp
      obtain ⟨W, n1, hW, hn1, D⟩ := D.node
      rw [hW, hn1]
      clear hW hn1
      try (refine hk hK ?_; clear hK K)
      rw [← HG.out]
      exact HJ.out W ib n1 r kd t HRr HKd HTt D
     ·
      go_simp
      obtain ⟨W, n1, hW, hn1, D⟩ := D.node
      rw [hW, hn1]
      clear hW hn1
      try (refine hk hK ?_; clear hK K)
      refine r1 4 (fun K hK => ?_)
      have cz := D.cell HKd.out
      go_simp
      clear cz
      try (refine hk hK ?_; clear hK K)
      refine tg 7 (.agg #[iv kd, sv t, .int .i64 0, .slice none 0 0]) ?_
      rw [← HG.out]
      exact HJ.out W ib n1 r kd t HRr HKd HTt D
    ·
     go_simp
     obtain ⟨W, n1, hW, hn1, D⟩ := D.node
     rw [hW, hn1]
     clear hW hn1
     try (refine hk hK ?_; clear hK K)
     refine rm [4, 6] (ac (fun K hK => ?_) (ac (fun K hK => ?_) AllReady.nil))
     ·
      have cz := D.cell HKd.out
      go_simp
      clear cz
      try (refine hk hK ?_; clear hK K)
      refine r1 6 (fun K hK => ?_)
      go_simp
      refine (HCc.out _ D.m).mono ?_
      rintro e W ⟨t, rfl, ht, _, hm, hk⟩
      have D := D.call hm hk
      have HTt := Lh ht
      have htl : t.length ≤ 16 := (called_ok t ht).2
      clear ht hm hk
      go_wp2_with fail
      try (refine hk hK ?_; clear hK K)
      refine tg 7 (.agg #[iv kd, sv t, .int .i64 0, .slice none 0 0]) ?_
      rw [← HG.out]
      exact HJ.out W ib n1 r kd t HRr HKd HTt D
     ·
      go_simp
      refine (HCc.out _ D.m).mono ?_
      rintro e W ⟨t, rfl, ht, _, hm, hk⟩
      have D := D.call hm hk
      have HTt := Lh ht
      have htl : t.length ≤ 16 := (called_ok t ht).2
      clear ht hm hk
      go_wp2_with fail
      try (refine hk hK ?_; clear hK K)
      refine r1 4 (fun K hK => ?_)
      have cz := D.cell HKd.out
      go_simp
      clear cz
      try (refine hk hK ?_; clear hK K)
      refine tg 7 (.agg #[iv kd, sv t, .int .i64 0, .slice none 0 0]) ?_
      rw [← HG.out]
      exact HJ.out W ib n1 r kd t HRr HKd HTt D
   ·
    go_simp
    obtain ⟨W, n1, hW, hn1, D⟩ := D.node
    rw [hW, hn1]
    clear hW hn1
    try (refine hk hK ?_; clear hK K)
    refine r1 2 (fun K hK => ?_)
    go_simp
    refine (HCt.out _ D.m).mono ?_
    rintro e W ⟨r, hr, hf, rfl, hm, hk⟩
    have D := D.call hm hk
    have HRr := Lh hf.eq
    have hrI : (r : Int) < 10 := by omega
    obtain ⟨kd, hkd⟩ : ∃ k, kindL[r]? = some k := ⟨_, List.getElem?_eq_getElem (show r < kindL.length from hr)⟩
    have HKd := Lh hkd
    clear hr hf hm hk hkd
    go_wp2_with fail
    try (refine hk hK ?_; clear hK K)
    refine tg 3 (.pointer (some ⟨ib, r, none⟩)) ?_
    refine rm [4, 6] (ac (fun K hK => ?_) (ac (fun K hK => ?_) AllReady.nil))
    ·
     have cz := D.cell HKd.out
     go_simp
     clear cz
     try (refine hk hK ?_; clear hK K)
     refine r1 6 (fun K hK => ?_)
     go_simp
     refine (HCc.out _ D.m).mono ?_
     rintro e W ⟨t, rfl, ht, _, hm, hk⟩
     have D := D.call hm hk
     have HTt := Lh ht
     have htl : t.length ≤ 16 := (called_ok t ht).2
     clear ht hm hk
     go_wp2_with fail
     try (refine hk hK ?_; clear hK K)
     refine tg 7 (.agg #[iv kd, sv t, .int .i64 0, .slice none 0 0]) ?_
     rw [← HG.out]
     exact HJ.out W ib n1 r kd t HRr HKd HTt D
    ·
     go_simp
     refine (HCc.out _ D.m).mono ?_
     rintro e W ⟨t, rfl, ht, _, hm, hk⟩
     have D := D.call hm hk
     have HTt := Lh ht
     have htl : t.length ≤ 16 := (called_ok t ht).2
     clear ht hm hk
     go_wp2_with fail
     try (refine hk hK ?_; clear hK K)
     refine r1 4 (fun K hK => ?_)
     have cz := D.cell HKd.out
     go_simp
     clear cz
     try (refine hk hK ?_; clear hK K)
     refine tg 7 (.agg #[iv kd, sv t, .int .i64 0, .slice none 0 0]) ?_
     rw [← HG.out]
     exact HJ.out W ib n1 r kd t HRr HKd HTt D
  ·
   go_simp
   refine (HCt.out _ D.m).mono ?_
   rintro e W ⟨r, hr, hf, rfl, hm, hk⟩
   have D := D.call hm hk
   have HRr := Lh hf.eq
   have hrI : (r : Int) < 10 := by omega
   obtain ⟨kd, hkd⟩ : ∃ k, kindL[r]? = some k := ⟨_, List.getElem?_eq_getElem (show r < kindL.length from hr)⟩
   have HKd := Lh hkd
   clear hr hf hm hk hkd
   go_wp2_with fail
   try (refine hk hK ?_; clear hK K)
   refine rm [0, 6, 8] (ac (fun K hK => ?_) (ac (fun K hK => ?_) (ac (fun K hK => ?_) AllReady.nil)))
   ·
    refine wp_bs (vs := #[(0, .int .i64 5), (1, .int .i64 6), (2, .int .i64 5), (3, .int .i64 6), (4, .int .i64 5), (5, .int .i64 0), (6, .int .i64 1), (7, .int .i64 2), (8, .int .i64 3), (9, .int .i64 4)]) rfl (by simp [Act.eval]) (build10 _) ?_
    obtain ⟨W, ib, hW, hib, D⟩ := D.ints
    rw [hW, hib]
    clear hW hib
    try (refine hk hK ?_; clear hK K)
    refine tg 3 (.pointer (some ⟨ib, r, none⟩)) ?_
    refine rm [4, 6, 8] (ac (fun K hK => ?_) (ac (fun K hK => ?_) (ac (fun K hK => ?_) AllReady.nil)))
    ·
     have cz := D.cell HKd.out
     go_simp
     clear cz
     try (refine hk hK ?_; clear hK K)
     refine rm [6, 8] (ac (fun K hK => ?_) (ac (fun K hK => ?_) AllReady.nil))
     ·
      go_simp
      refine (HCc.out _ D.m).mono ?_
      rintro e W ⟨t, rfl, ht, _, hm, hk⟩
      have D := D.call hm hk
      have HTt := Lh ht
      have htl : t.length ≤ 16 := (called_ok t ht).2
      clear ht hm hk
      go_wp2_with fail
      try (refine hk hK ?_; clear hK K)
      refine tg 7 (.agg #[iv kd, sv t, .int .i64 0, .slice none 0 0]) ?_
      refine r1 8 (fun K hK => ?_)
      go_simp
      obtain ⟨W, n1, hW, hn1, D⟩ := D.node
      rw [hW, hn1]
      clear hW hn1
      try (refine hk hK ?_; clear hK K)
      rw [← HG.out]
      exact HJ.out W ib n1 r kd t HRr HKd HTt D
     ·
      go_simp
      obtain ⟨W, n1, hW, hn1, D⟩ := D.node
      rw [hW, hn1]
      clear hW hn1
      try (refine hk hK ?_; clear hK K)
      refine r1 6 (fun K hK => ?_)
      go_simp
      refine (HCc.out _ D.m).mono ?_
      rintro e W ⟨t, rfl, ht, _, hm, hk⟩
      have D := D.call hm hk
      have HTt := Lh ht
      have htl : t.length ≤ 16 := (called_ok t ht).2
      clear ht hm hk
      go_wp2_with fail
      try (refine hk hK ?_; clear hK K)
      refine tg 7 (.agg #[iv kd, sv t, .int .i64 0, .slice none 0 0]) ?_
      rw [← HG.out]
      exact HJ.out W ib n1 r kd t HRr HKd HTt D
    ·
     go_simp
     refine (HCc.out _ D.m).mono ?_
     rintro e W ⟨t, rfl, ht, _, hm, hk⟩
     have D := D.call hm hk
     have HTt := Lh ht
     have htl : t.length ≤ 16 := (called_ok t ht).2
     clear ht hm hk
     go_wp2_with fail
     try (refine hk hK ?_; clear hK K)
     refine rm [4, 8] (ac (fun K hK => ?_) (ac (fun K hK => ?_) AllReady.nil))
     ·
      have cz := D.cell HKd.out
      go_simp
      clear cz
      try (refine hk hK ?_; clear hK K)
      refine tg 7 (.agg #[iv kd, sv t, .int .i64 0, .slice none 0 0]) ?_
      refine r1 8 (fun K hK => ?_)
      go_simp
      obtain ⟨W, n1, hW, hn1, D⟩ := D.node
      rw [hW, hn1]
      clear hW hn1
      try (refine hk hK ?_; clear hK K)
      rw [← HG.out]
      exact HJ.out W ib n1 r kd t HRr HKd HTt D
     ·
      go_simp
      obtain ⟨W, n1, hW, hn1, D⟩ := D.node
      rw [hW, hn1]
      clear hW hn1
      try (refine hk hK ?_; clear hK K)
      refine r1 4 (fun K hK => ?_)
      have cz := D.cell HKd.out
      go_simp
      clear cz
      try (refine hk hK ?_; clear hK K)
      refine tg 7 (.agg #[iv kd, sv t, .int .i64 0, .slice none 0 0]) ?_
      rw [← HG.out]
      exact HJ.out W ib n1 r kd t HRr HKd HTt D
    ·
     go_simp
     obtain ⟨W, n1, hW, hn1, D⟩ := D.node
     rw [hW, hn1]
     clear hW hn1
     try (refine hk hK ?_; clear hK K)
     refine rm [4, 6] (ac (fun K hK => ?_) (ac (fun K hK => ?_) AllReady.nil))
     ·
      have cz := D.cell HKd.out
      go_simp
      clear cz
      try (refine hk hK ?_; clear hK K)
      refine r1 6 (fun K hK => ?_)
      go_simp
      refine (HCc.out _ D.m).mono ?_
      rintro e W ⟨t, rfl, ht, _, hm, hk⟩
      have D := D.call hm hk
      have HTt := Lh ht
      have htl : t.length ≤ 16 := (called_ok t ht).2
      clear ht hm hk
      go_wp2_with fail
      try (refine hk hK ?_; clear hK K)
      refine tg 7 (.agg #[iv kd, sv t, .int .i64 0, .slice none 0 0]) ?_
      rw [← HG.out]
      exact HJ.out W ib n1 r kd t HRr HKd HTt D
     ·
      go_simp
      refine (HCc.out _ D.m).mono ?_
      rintro e W ⟨t, rfl, ht, _, hm, hk⟩
      have D := D.call hm hk
      have HTt := Lh ht
      have htl : t.length ≤ 16 := (called_ok t ht).2
      clear ht hm hk
      go_wp2_with fail
      try (refine hk hK ?_; clear hK K)
      refine r1 4 (fun K hK => ?_)
      have cz := D.cell HKd.out
      go_simp
      clear cz
      try (refine hk hK ?_; clear hK K)
      refine tg 7 (.agg #[iv kd, sv t, .int .i64 0, .slice none 0 0]) ?_
      rw [← HG.out]
      exact HJ.out W ib n1 r kd t HRr HKd HTt D
   ·
    go_simp
    refine (HCc.out _ D.m).mono ?_
    rintro e W ⟨t, rfl, ht, _, hm, hk⟩
    have D := D.call hm hk
    have HTt := Lh ht
    have htl : t.length ≤ 16 := (called_ok t ht).2
    clear ht hm hk
    go_wp2_with fail
    try (refine hk hK ?_; clear hK K)
    refine rm [0, 8] (ac (fun K hK => ?_) (ac (fun K hK => ?_) AllReady.nil))
    ·
     refine wp_bs (vs := #[(0, .int .i64 5), (1, .int .i64 6), (2, .int .i64 5), (3, .int .i64 6), (4, .int .i64 5), (5, .int .i64 0), (6, .int .i64 1), (7, .int .i64 2), (8, .int .i64 3), (9, .int .i64 4)]) rfl (by simp [Act.eval]) (build10 _) ?_
     obtain ⟨W, ib, hW, hib, D⟩ := D.ints
     rw [hW, hib]
     clear hW hib
     try (refine hk hK ?_; clear hK K)
     refine tg 3 (.pointer (some ⟨ib, r, none⟩)) ?_
     refine rm [4, 8] (ac (fun K hK => ?_) (ac (fun K hK => ?_) AllReady.nil))
     ·
      have cz := D.cell HKd.out
      go_simp
      clear cz
      try (refine hk hK ?_; clear hK K)
      refine tg 7 (.agg #[iv kd, sv t, .int .i64 0, .slice none 0 0]) ?_
      refine r1 8 (fun K hK => ?_)
      go_simp
      obtain ⟨W, n1, hW, hn1, D⟩ := D.node
      rw [hW, hn1]
      clear hW hn1
      try (refine hk hK ?_; clear hK K)
      rw [← HG.out]
      exact HJ.out W ib n1 r kd t HRr HKd HTt D
     ·
      go_simp
      obtain ⟨W, n1, hW, hn1, D⟩ := D.node
      rw [hW, hn1]
      clear hW hn1
      try (refine hk hK ?_; clear hK K)
      refine r1 4 (fun K hK => ?_)
      have cz := D.cell HKd.out
      go_simp
      clear cz
      try (refine hk hK ?_; clear hK K)
      refine tg 7 (.agg #[iv kd, sv t, .int .i64 0, .slice none 0 0]) ?_
      rw [← HG.out]
      exact HJ.out W ib n1 r kd t HRr HKd HTt D
    ·
     go_simp
     obtain ⟨W, n1, hW, hn1, D⟩ := D.node
     rw [hW, hn1]
     clear hW hn1
     try (refine hk hK ?_; clear hK K)
     refine r1 0 (fun K hK => ?_)
     refine wp_bs (vs := #[(0, .int .i64 5), (1, .int .i64 6), (2, .int .i64 5), (3, .int .i64 6), (4, .int .i64 5), (5, .int .i64 0), (6, .int .i64 1), (7, .int .i64 2), (8, .int .i64 3), (9, .int .i64 4)]) rfl (by simp [Act.eval]) (build10 _) ?_
     obtain ⟨W, ib, hW, hib, D⟩ := D.ints
     rw [hW, hib]
     clear hW hib
     try (refine hk hK ?_; clear hK K)
     refine tg 3 (.pointer (some ⟨ib, r, none⟩)) ?_
     refine r1 4 (fun K hK => ?_)
     have cz := D.cell HKd.out
     go_simp
     clear cz
     try (refine hk hK ?_; clear hK K)
     refine tg 7 (.agg #[iv kd, sv t, .int .i64 0, .slice none 0 0]) ?_
     rw [← HG.out]
     exact HJ.out W ib n1 r kd t HRr HKd HTt D
   ·
    go_simp
    obtain ⟨W, n1, hW, hn1, D⟩ := D.node
    rw [hW, hn1]
    clear hW hn1
    try (refine hk hK ?_; clear hK K)
    refine rm [0, 6] (ac (fun K hK => ?_) (ac (fun K hK => ?_) AllReady.nil))
    ·
     refine wp_bs (vs := #[(0, .int .i64 5), (1, .int .i64 6), (2, .int .i64 5), (3, .int .i64 6), (4, .int .i64 5), (5, .int .i64 0), (6, .int .i64 1), (7, .int .i64 2), (8, .int .i64 3), (9, .int .i64 4)]) rfl (by simp [Act.eval]) (build10 _) ?_
     obtain ⟨W, ib, hW, hib, D⟩ := D.ints
     rw [hW, hib]
     clear hW hib
     try (refine hk hK ?_; clear hK K)
     refine tg 3 (.pointer (some ⟨ib, r, none⟩)) ?_
     refine rm [4, 6] (ac (fun K hK => ?_) (ac (fun K hK => ?_) AllReady.nil))
     ·
      have cz := D.cell HKd.out
      go_simp
      clear cz
      try (refine hk hK ?_; clear hK K)
      refine r1 6 (fun K hK => ?_)
      go_simp
      refine (HCc.out _ D.m).mono ?_
      rintro e W ⟨t, rfl, ht, _, hm, hk⟩
      have D := D.call hm hk
      have HTt := Lh ht
      have htl : t.length ≤ 16 := (called_ok t ht).2
      clear ht hm hk
      go_wp2_with fail
      try (refine hk hK ?_; clear hK K)
      refine tg 7 (.agg #[iv kd, sv t, .int .i64 0, .slice none 0 0]) ?_
      rw [← HG.out]
      exact HJ.out W ib n1 r kd t HRr HKd HTt D
     ·
      go_simp
      refine (HCc.out _ D.m).mono ?_
      rintro e W ⟨t, rfl, ht, _, hm, hk⟩
      have D := D.call hm hk
      have HTt := Lh ht
      have htl : t.length ≤ 16 := (called_ok t ht).2
      clear ht hm hk
      go_wp2_with fail
      try (refine hk hK ?_; clear hK K)
      refine r1 4 (fun K hK => ?_)
      have cz := D.cell HKd.out
      go_simp
      clear cz
      try (refine hk hK ?_; clear hK K)
      refine tg 7 (.agg #[iv kd, sv t, .int .i64 0, .slice none 0 0]) ?_
      rw [← HG.out]
      exact HJ.out W ib n1 r kd t HRr HKd HTt D
    ·
     go_simp
     refine (HCc.out _ D.m).mono ?_
     rintro e W ⟨t, rfl, ht, _, hm, hk⟩
     have D := D.call hm hk
     have HTt := Lh ht
     have htl : t.length ≤ 16 := (called_ok t ht).2
     clear ht hm hk
     go_wp2_with fail
     try (refine hk hK ?_; clear hK K)
     refine r1 0 (fun K hK => ?_)
     refine wp_bs (vs := #[(0, .int .i64 5), (1, .int .i64 6), (2, .int .i64 5), (3, .int .i64 6), (4, .int .i64 5), (5, .int .i64 0), (6, .int .i64 1), (7, .int .i64 2), (8, .int .i64 3), (9, .int .i64 4)]) rfl (by simp [Act.eval]) (build10 _) ?_
     obtain ⟨W, ib, hW, hib, D⟩ := D.ints
     rw [hW, hib]
     clear hW hib
     try (refine hk hK ?_; clear hK K)
     refine tg 3 (.pointer (some ⟨ib, r, none⟩)) ?_
     refine r1 4 (fun K hK => ?_)
     have cz := D.cell HKd.out
     go_simp
     clear cz
     try (refine hk hK ?_; clear hK K)
     refine tg 7 (.agg #[iv kd, sv t, .int .i64 0, .slice none 0 0]) ?_
     rw [← HG.out]
     exact HJ.out W ib n1 r kd t HRr HKd HTt D
  ·
   go_simp
   obtain ⟨W, n1, hW, hn1, D⟩ := D.node
   rw [hW, hn1]
   clear hW hn1
   try (refine hk hK ?_; clear hK K)
   refine rm [0, 2] (ac (fun K hK => ?_) (ac (fun K hK => ?_) AllReady.nil))
   ·
    refine wp_bs (vs := #[(0, .int .i64 5), (1, .int .i64 6), (2, .int .i64 5), (3, .int .i64 6), (4, .int .i64 5), (5, .int .i64 0), (6, .int .i64 1), (7, .int .i64 2), (8, .int .i64 3), (9, .int .i64 4)]) rfl (by simp [Act.eval]) (build10 _) ?_
    obtain ⟨W, ib, hW, hib, D⟩ := D.ints
    rw [hW, hib]
    clear hW hib
    try (refine hk hK ?_; clear hK K)
    refine r1 2 (fun K hK => ?_)
    go_simp
    refine (HCt.out _ D.m).mono ?_
    rintro e W ⟨r, hr, hf, rfl, hm, hk⟩
    have D := D.call hm hk
    have HRr := Lh hf.eq
    have hrI : (r : Int) < 10 := by omega
    obtain ⟨kd, hkd⟩ : ∃ k, kindL[r]? = some k := ⟨_, List.getElem?_eq_getElem (show r < kindL.length from hr)⟩
    have HKd := Lh hkd
    clear hr hf hm hk hkd
    go_wp2_with fail
    try (refine hk hK ?_; clear hK K)
    refine tg 3 (.pointer (some ⟨ib, r, none⟩)) ?_
    refine rm [4, 6] (ac (fun K hK => ?_) (ac (fun K hK => ?_) AllReady.nil))
    ·
     have cz := D.cell HKd.out
     go_simp
     clear cz
     try (refine hk hK ?_; clear hK K)
     refine r1 6 (fun K hK => ?_)
     go_simp
     refine (HCc.out _ D.m).mono ?_
     rintro e W ⟨t, rfl, ht, _, hm, hk⟩
     have D := D.call hm hk
     have HTt := Lh ht
     have htl : t.length ≤ 16 := (called_ok t ht).2
     clear ht hm hk
     go_wp2_with fail
     try (refine hk hK ?_; clear hK K)
     refine tg 7 (.agg #[iv kd, sv t, .int .i64 0, .slice none 0 0]) ?_
     rw [← HG.out]
     exact HJ.out W ib n1 r kd t HRr HKd HTt D
    ·
     go_simp
     refine (HCc.out _ D.m).mono ?_
     rintro e W ⟨t, rfl, ht, _, hm, hk⟩
     have D := D.call hm hk
     have HTt := Lh ht
     have htl : t.length ≤ 16 := (called_ok t ht).2
     clear ht hm hk
     go_wp2_with fail
     try (refine hk hK ?_; clear hK K)
     refine r1 4 (fun K hK => ?_)
     have cz := D.cell HKd.out
     go_simp
     clear cz
     try (refine hk hK ?_; clear hK K)
     refine tg 7 (.agg #[iv kd, sv t, .int .i64 0, .slice none 0 0]) ?_
     rw [← HG.out]
     exact HJ.out W ib n1 r kd t HRr HKd HTt D
   ·
    go_simp
    refine (HCt.out _ D.m).mono ?_
    rintro e W ⟨r, hr, hf, rfl, hm, hk⟩
    have D := D.call hm hk
    have HRr := Lh hf.eq
    have hrI : (r : Int) < 10 := by omega
    obtain ⟨kd, hkd⟩ : ∃ k, kindL[r]? = some k := ⟨_, List.getElem?_eq_getElem (show r < kindL.length from hr)⟩
    have HKd := Lh hkd
    clear hr hf hm hk hkd
    go_wp2_with fail
    try (refine hk hK ?_; clear hK K)
    refine rm [0, 6] (ac (fun K hK => ?_) (ac (fun K hK => ?_) AllReady.nil))
    ·
     refine wp_bs (vs := #[(0, .int .i64 5), (1, .int .i64 6), (2, .int .i64 5), (3, .int .i64 6), (4, .int .i64 5), (5, .int .i64 0), (6, .int .i64 1), (7, .int .i64 2), (8, .int .i64 3), (9, .int .i64 4)]) rfl (by simp [Act.eval]) (build10 _) ?_
     obtain ⟨W, ib, hW, hib, D⟩ := D.ints
     rw [hW, hib]
     clear hW hib
     try (refine hk hK ?_; clear hK K)
     refine tg 3 (.pointer (some ⟨ib, r, none⟩)) ?_
     refine rm [4, 6] (ac (fun K hK => ?_) (ac (fun K hK => ?_) AllReady.nil))
     ·
      have cz := D.cell HKd.out
      go_simp
      clear cz
      try (refine hk hK ?_; clear hK K)
      refine r1 6 (fun K hK => ?_)
      go_simp
      refine (HCc.out _ D.m).mono ?_
      rintro e W ⟨t, rfl, ht, _, hm, hk⟩
      have D := D.call hm hk
      have HTt := Lh ht
      have htl : t.length ≤ 16 := (called_ok t ht).2
      clear ht hm hk
      go_wp2_with fail
      try (refine hk hK ?_; clear hK K)
      refine tg 7 (.agg #[iv kd, sv t, .int .i64 0, .slice none 0 0]) ?_
      rw [← HG.out]
      exact HJ.out W ib n1 r kd t HRr HKd HTt D
     ·
      go_simp
      refine (HCc.out _ D.m).mono ?_
      rintro e W ⟨t, rfl, ht, _, hm, hk⟩
      have D := D.call hm hk
      have HTt := Lh ht
      have htl : t.length ≤ 16 := (called_ok t ht).2
      clear ht hm hk
      go_wp2_with fail
      try (refine hk hK ?_; clear hK K)
      refine r1 4 (fun K hK => ?_)
      have cz := D.cell HKd.out
      go_simp
      clear cz
      try (refine hk hK ?_; clear hK K)
      refine tg 7 (.agg #[iv kd, sv t, .int .i64 0, .slice none 0 0]) ?_
      rw [← HG.out]
      exact HJ.out W ib n1 r kd t HRr HKd HTt D
    ·
     go_simp
     refine (HCc.out _ D.m).mono ?_
     rintro e W ⟨t, rfl, ht, _, hm, hk⟩
     have D := D.call hm hk
     have HTt := Lh ht
     have htl : t.length ≤ 16 := (called_ok t ht).2
     clear ht hm hk
     go_wp2_with fail
     try (refine hk hK ?_; clear hK K)
     refine r1 0 (fun K hK => ?_)
     refine wp_bs (vs := #[(0, .int .i64 5), (1, .int .i64 6), (2, .int .i64 5), (3, .int .i64 6), (4, .int .i64 5), (5, .int .i64 0), (6, .int .i64 1), (7, .int .i64 2), (8, .int .i64 3), (9, .int .i64 4)]) rfl (by simp [Act.eval]) (build10 _) ?_
     obtain ⟨W, ib, hW, hib, D⟩ := D.ints
     rw [hW, hib]
     clear hW hib
     try (refine hk hK ?_; clear hK K)
     refine tg 3 (.pointer (some ⟨ib, r, none⟩)) ?_
     refine r1 4 (fun K hK => ?_)
     have cz := D.cell HKd.out
     go_simp
     clear cz
     try (refine hk hK ?_; clear hK K)
     refine tg 7 (.agg #[iv kd, sv t, .int .i64 0, .slice none 0 0]) ?_
     rw [← HG.out]
     exact HJ.out W ib n1 r kd t HRr HKd HTt D
 case rest =>
  obtain ⟨n1, r, kd, t, rfl, HR, HKd, HT, M1, R1, N1, K1, HG1⟩ := hcut
  have htl : t.length ≤ 16 := (called_ok t HT.out).2
  clear M0 R0 K0
  have hkd : kd = 0 ∨ kd = 1 ∨ kd = 2 ∨ kd = 3 ∨ kd = 4 ∨ kd = 5 ∨ kd = 6 := by
   have h := List.mem_of_getElem? HKd.out
   have : ∀ k ∈ kindL, k = 0 ∨ k = 1 ∨ k = 2 ∨ k = 3 ∨ k = 4 ∨ k = 5 ∨ k = 6 := by decide
   exact this kd h
  rcases hkd with rfl | rfl | rfl | rfl | rfl | rfl | rfl
  ·
   have b0 := N1.out.cell 0; have b2 := N1.out.cell 2; have f2 := N1.out.frozen 2
   unfold NC at b0 b2
   simp only [g0, gs] at b0 b2
   have HCz := Lh (take_any M1.out (by omega) 1999 (by omega) (by omega))
   clear b2 f2
   go_wp2_with fail
   refine HCz.out.mono ?_
   rintro e wz ⟨rz, hrz, _, rfl, hm, hk⟩
   have Rz := Lh (hk.blk R1.out (by have := HRG.out; omega))
   have Nz := Lh (hk.blk N1.out (by have := HG1.out; omega))
   have Kz := Lh (K1.out.trans (hk.below K1.out.size (fun k hk e => by have := HRG.out; omega)))
   have b2 := Nz.out.cell 2; have f2 := Nz.out.frozen 2
   unfold NC at b2
   simp only [g0, gs] at b2
   have hrzI : (rz : Int) < 1999 := by omega
   have HRz := Lh hrz
   have qz : IntKind.i64.wrap ((rz : Int) - 999) = (rz : Int) - 999 := IntWalk.i64_in _ (by omega)
   clear hm hk hrz R1 N1 K1 HCz b0
   go_upto_region 21 with fail
   clear b2 f2
   obtain ⟨W9, hW9⟩ : ∃ W', wz.setCell ⟨n1, 2, none⟩ (.int .i64 ((rz : Int) - 999)) = W' := ⟨_, rfl⟩
   have k9 := Kp.setCell (Z := fun k => k = n1) wz ⟨n1, 2, none⟩ (.int .i64 ((rz : Int) - 999)) rfl
   have N9 := Lh (show Blk (wz.setCell ⟨n1, 2, none⟩ (.int .i64 ((rz : Int) - 999))) n1 25 [iv 0, sv t, .int .i64 ((rz : Int) - 999), .slice none 0 0] from Nz.out.put 2 _)
   have R9 := Lh (k9.blk Rz.out (by have h1 := HRG.out; have h2 := HG1.out; omega))
   have K9 := Lh (Kz.out.trans (k9.below Kz.out.size (fun k hk e => by have h1 := HRG.out; have h2 := HG1.out; omega)))
   rw [hW9] at N9 R9 K9 ⊢
   clear k9 hW9 Rz Nz Kz
   have NN3 : Hid (Blk W9 n1 25 [.int .i64 0, sv t, .int .i64 ((rz : Int) - 999), .slice none 0 0]) := N9
   have ZZ3 : Hid (Blk W9 rb 25 [.int .i64 0, .string ⟨#[]⟩, .int .i64 0, .slice none 0 0]) := R9
   have HV := Lh (show NV W9 (fun k => g < k) (.mk 0 t ((rz : Int) - 999) []) (NC 0 t ((rz : Int) - 999) (.slice none 0 0)) from NV.leaf (fine_small (by omega) (by omega) (by omega) (by have := HRz.out; omega) (by omega)))
   go_wp2_with (first
    | (with_reducible refine wpList_load_cells rfl 25 4 size25 (.tmp 4) rfl ⟨n1, 0, none⟩ rfl [.int .i64 0, sv t, .int .i64 ((rz : Int) - 999), .slice none 0 0] rfl _ Tryd.underlying25 rfl NN3.out.at ?_)
    | (with_reducible refine wpList_store_blk rfl 25 4 size25 (.tmp 2) (.tmp 82) rfl rb [.int .i64 0, sv t, .int .i64 ((rz : Int) - 999), .slice none 0 0] rfl rfl _ ZZ3.out rfl rfl rfl ?_; intro w8 hb8 hk8))
   refine bodyPost_ret (v := .agg (NC 0 t ((rz : Int) - 999) (.slice none 0 0)).toArray) (box_res 4 size25 rfl _ _ rb (NC 0 t ((rz : Int) - 999) (.slice none 0 0)) _ rfl hb8 rfl Tryd.underlying25 rfl) rfl ⟨.mk 0 t ((rz : Int) - 999) [], _, rfl, ?_, NV.keep (fun k h1 h2 => ⟨hk8.block k h2 (fun e => by have := HRG.out; omega), by have := HRG.out; omega⟩) _ _ HV.out, K9.out.trans (hk8.below K9.out.size (fun k hk e => by have := HRG.out; omega))⟩
   exact ⟨by rw [← HR.out]; exact HKd.out, HT.out, fun h => absurd h (by dsimp only [Nd.kind]; decide), fun _ => ⟨rfl, (by show (-999 : Int) ≤ (rz : Int) - 999; omega), (by show (rz : Int) - 999 ≤ 999; have := HRz.out; omega)⟩, fun h => absurd h (by dsimp only [Nd.kind]; decide), fun h => absurd h (by dsimp only [Nd.kind]; decide), fun h => absurd h (by dsimp only [Nd.kind]; decide)⟩
  ·
   have b0 := N1.out.cell 0
   unfold NC at b0
   simp only [g0, gs] at b0
   have HC4 := Lh (take_any M1.out (by omega) 4 (by omega) (by omega))
   go_wp2_with fail
   refine HC4.out.mono ?_
   rintro e w1 ⟨r4, hr4, _, rfl, hm, hk⟩
   have HR4 := Lh hr4
   have hr4I : (r4 : Int) < 4 := by omega
   obtain ⟨nb, hnb⟩ : ∃ z, n1 = z := ⟨_, rfl⟩
   have U1 := Lh (show US g rb n1 w w1 (.slice A L.length c) L 3 from ⟨hm, hk.blk R1.out (by have := HRG.out; omega), K1.out.trans (hk.below K1.out.size (fun k hk e => by have := HRG.out; omega)), HRG.out.1, HRG.out.2, HG1.out, Nat.lt_of_lt_of_le N1.out.lt hk.size⟩)
   have B1 := Lh (hk.blk N1.out (by have := HG1.out; omega))
   rw [hnb] at U1 B1 ⊢
   clear hr4 hm hk b0 HC4 R1 N1 K1 M1 hnb HG1
   go_wp2_with fail
   go_loopw [6, 7] (fun s6 s7 wr => ∃ (m jx : Nat) (A0 : Option Addr) (M0 c0 : Nat) (ml : List Nd) (xs : List Value), s6 = .int .i64 (m : Int) ∧ Hid (m = ml.length) ∧ Hid (M0 = ml.length) ∧ Hid (m ≤ r4) ∧ Hid (jx = 3 + 2 * m) ∧ Hid (US g rb nb w wr (.slice A L.length c) L jx) ∧ Hid (Blk wr nb 25 (NC 1 t 0 (.slice A0 M0 c0))) ∧ Hid (KR wr nb (.slice A0 M0 c0) ml xs) ∧ Hid (∀ x ∈ ml, ∃ t z, t ∈ calledL ∧ -999 ≤ z ∧ z ≤ 999 ∧ x = .mk 7 t z [])) (fun s6 _ _ => r4 - (intOf s6).toNat)
   case atStart => exact ⟨0, 3, none, 0, 0, [], [], rfl, Lh rfl, Lh rfl, Lh (Nat.zero_le _), Lh rfl, U1, B1, Lh (KR.nil _ _), Lh (fun x hx => by simp at hx)⟩
   case round =>
    clear U1 B1
    obtain ⟨m, jx, A0, M0, c0, ml, xs, rfl, HM1, HL, HM4, HM3', UR, BR, KRr, HIt⟩ := hrel
    have HM3 := Lh (show jx = 3 + 2 * m ∧ m ≤ r4 from ⟨HM3'.out, HM4.out⟩)
    have hmI : (m : Int) < 1000 := by have h1 := HM4.out; omega
    by_cases hm : m < r4
    ·
     have hmr : (m : Int) < (r4 : Int) := by omega
     have HCn := Lh (called_any UR.out.m (by have h1 := HM3.out; have h2 := HM4.out; have h3 := HR4.out; omega))
     go_wp2_with fail
     refine HCn.out.mono ?_
     rintro e wn ⟨t2, rfl, ht2, _, hm, hk⟩
     have HT2 := Lh ht2
     have ht2l : t2.length ≤ 16 := (called_ok t2 ht2).2
     have U2 := Lh (UR.out.call hm hk)
     have B2 := Lh (hk.blk BR.out (by obtain ⟨q1, q2, q3, q4⟩ := UR.out.h; omega))
     have K2 := Lh (KRr.out.kp hk (fun j e => by obtain ⟨q1, q2, q3, q4⟩ := UR.out.h; omega))
     have HLb := Lh (show M0 + 1 ≤ 8589934592 by have h1 := HL.out; have h2 := HM1.out; have h3 := HM3.out; have h4 := HR4.out; omega)
     have HC := Lh (fun W (hW : MS g W (.slice A L.length c) L (jx + 1)) => take_any hW (by have h1 := HM3.out; have h2 := HM4.out; have h3 := HR4.out; omega) 1999 (by omega) (by omega))
     clear ht2 hm hk UR BR KRr HCn
     go_upto_region 14 with fail
     refine wp_region_any (by kernel_rfl) ?_
     change wpAny _ _ _ _ _ _ _ (World.drew wn)
     have Gd := Lh (U2.out.keep (Kp.drew (fun _ => False) wn) (fun _ h => h.elim))
     have Bd := Lh (B2.out.drew)
     have Kd := Lh (K2.out.kp (Kp.drew (fun _ => False) wn) (fun _ h => h.elim))
     generalize World.drew wn = wdp at Gd Bd Kd ⊢
     refine tg 0 (.pointer (some ⟨nb, 3, none⟩)) ?_
     refine tg 2 (sv t2) ?_
     refine tg 3 (pt g) ?_
     refine rm [1, 4] (ac (fun K hK => ?_) (ac (fun K hK => ?_) AllReady.nil))
     ·
      have e3 := Bd.out.cell 3
      unfold NC at e3
      simp only [g0, gs] at e3
      go_simp
      clear e3
      try (refine hk hK ?_; clear hK K)
      refine r1 4 (fun K hK => ?_)
      go_simp
      refine (HC.out _ Gd.out.m).mono ?_
      rintro e Wp4 ⟨rz, hrz, _, rfl, hm, hk⟩
      have hrzI : (rz : Int) < 1999 := by omega
      have HRz := Lh hrz
      have qz : IntKind.i64.wrap ((rz : Int) - 999) = (rz : Int) - 999 := IntWalk.i64_in _ (by omega)
      have Gp4 := Lh (Gd.out.call hm hk)
      have Kp4 := Lh (Kd.out.kp hk (fun j e => by obtain ⟨q1, q2, q3, q4⟩ := Gd.out.h; omega))
      have Bp4 := Lh (hk.blk Bd.out (by obtain ⟨q1, q2, q3, q4⟩ := Gd.out.h; omega))
      clear hrz hm hk
      go_wp2_with fail
      try (refine hk hK ?_; clear hK K)
      refine tg 5 (.int .i64 ((rz : Int) - 999)) ?_
      refine tg 6 (.agg #[.int .i64 7, .string ⟨t2.toArray⟩, .int .i64 ((rz : Int) - 999), .slice none 0 0]) ?_
      refine r1 7 (fun K hK => ?_)
      refine wp_bs (vs := #[(0, .agg #[.int .i64 7, .string ⟨t2.toArray⟩, .int .i64 ((rz : Int) - 999), .slice none 0 0])]) rfl (by simp [Act.eval]) (bs1 _ _ _ _ _ _ _) ?_
      obtain ⟨Wp7, hW⟩ : ∃ W', Wp4.alloc (.cells #[.int .i64 7, .string ⟨t2.toArray⟩, .int .i64 ((rz : Int) - 999), .slice none 0 0] 25) = W' := ⟨_, rfl⟩
      obtain ⟨gzp7, hgz⟩ : ∃ z, Wp4.heap.size = z := ⟨_, rfl⟩
      have hb0 : Below Wp4.heap.size Wp4 Wp7 := by rw [← hW]; exact (Below.refl _ _).alloc (Nat.le_refl _) _
      have Zp7 := Lh (show Blk Wp7 gzp7 25 (NC 7 t2 ((rz : Int) - 999) (.slice none 0 0)) by rw [← hW, ← hgz]; exact Blk.new _ _ _)
      have Gp7 := Lh (Gp4.out.keep (Kp.of_below' (Z := fun _ => False) hb0) (fun _ h => h.elim))
      have Bp7 := Lh (Bp4.out.below hb0 Bp4.out.lt)
      have Kp7 := Lh (Kp4.out.kp (Kp.of_below' (Z := fun _ => False) hb0) (fun _ h => h.elim))
      have Sp7 := Lh (show nb + 2 ≤ Wp7.heap.size by have h1 := Zp7.out.lt; have h2 := Gp4.out.fit; omega)
      rw [hW, hgz]
      clear hW hb0 hgz
      try (refine hk hK ?_; clear hK K)
      refine r1 8 (fun K hK => ?_)
      have HOW : Wp7.ownsRow (nb + 2) 25 4 (.slice A0 M0 c0) M0 xs := by have h := Kp7.out.own; rw [← HL.out] at h; exact h
      obtain ⟨i0, hi0, hz0, hz1, hz2⟩ := info_parts25
      refine wp_append_lies Wp7 (.tmp 49) (.tmp 55) 23 rfl (nb + 2) 25 i0 ZN 4 56 Tryd.underlying23 hi0 hz0 hz1 hz2 rfl (by decide) (.slice A0 M0 c0) M0 xs rfl HOW ⟨gzp7, 0, none⟩ 1 1 (NC 7 t2 ((rz : Int) - 999) (.slice none 0 0)) rfl rfl Zp7.out.at (nc_one _ _ _ _ _ _) (by decide) (by have := HLb.out; unfold maxLen; omega) (by have := HLb.out; omega) Sp7.out _ rfl ?_
      intro g2p8 capp8 Wp8 hown hgrow hat hlt
      have Pp8 := Lh (push_u Gp7.out Bp7.out Kp7.out (n := .mk 7 t2 ((rz : Int) - 999) []) (NV.leaf (fine_small (by omega) (by omega) (by have := HRz.out; omega) (by have := HRz.out; omega) (by omega))) (by rw [← HL.out]; exact HLb.out) (by rw [← HL.out]; exact hown) hgrow hat)
      rw [← HL.out] at Pp8
      have hn3 := Pp8.out.2.2.2.cell 3; have fn3 := Pp8.out.2.2.2.frozen 3
      unfold NC at hn3
      simp only [g0, gs] at hn3
      clear hown hgrow hat hlt HOW hi0 hz0 hz1 hz2
      try (refine hk hK ?_; clear hK K)
      refine tg 9 (.pointer (some ⟨nb, 3, none⟩)) ?_
      refine r1 10 (fun K hK => ?_)
      go_simp
      clear hn3 fn3
      obtain ⟨wq, hwq⟩ : ∃ W', Wp8.setCell ⟨nb, 3, none⟩ (.slice (some ⟨g2p8, 0, none⟩) (M0 + 1) capp8) = W' := ⟨_, rfl⟩
      rw [hwq] at Pp8 ⊢
      have HP := Lh (And.intro Pp8.out.1 (And.intro Pp8.out.2.1 Pp8.out.2.2.1))
      clear hwq Pp8
      try (refine hk hK ?_; clear hK K)
      refine wpAny_done (by kernel_rfl) ?_ _
      try simp only [zp, zn, zu, zv, zw]
      have HIt2 := Lh (show ∀ x ∈ ml ++ [Nd.mk 7 t2 ((rz : Int) - 999) []], ∃ t z, t ∈ calledL ∧ -999 ≤ z ∧ z ≤ 999 ∧ x = .mk 7 t z [] from fun x hx => by
       rcases List.mem_append.1 hx with hx | hx
       ·
        exact HIt.out x hx
       ·
        rw [List.mem_singleton] at hx
        exact ⟨t2, _, HT2.out, by have := HRz.out; omega, by have := HRz.out; omega, hx⟩)
      go_wp2_with fail
      go_roundw
      case rel =>
       first
        | exact ⟨m + 1, jx + 2, some ⟨g2p8, 0, none⟩, M0 + 1, capp8, ml ++ [.mk 7 t2 ((rz : Int) - 999) []], _, by first | rfl | exact congrArg (Value.int .i64) (by omega), Lh (by rw [HM1.out]; simp), Lh (by rw [HL.out]; simp), Lh (by omega), Lh (by have := HM3.out; omega), Lh HP.out.1, Lh HP.out.2.1, Lh HP.out.2.2, HIt2⟩
        | ((repeat apply Exists.intro); exact ⟨⟨m + 1, jx + 2, some ⟨g2p8, 0, none⟩, M0 + 1, capp8, ml ++ [.mk 7 t2 ((rz : Int) - 999) []], _, by first | rfl | exact congrArg (Value.int .i64) (by omega), Lh (by rw [HM1.out]; simp), Lh (by rw [HL.out]; simp), Lh (by omega), Lh (by have := HM3.out; omega), Lh HP.out.1, Lh HP.out.2.1, Lh HP.out.2.2, HIt2⟩, rfl⟩)
      case measure => simp only [intOf]; omega
     ·
      go_simp
      refine (HC.out _ Gd.out.m).mono ?_
      rintro e Wp10 ⟨rz, hrz, _, rfl, hm, hk⟩
      have hrzI : (rz : Int) < 1999 := by omega
      have HRz := Lh hrz
      have qz : IntKind.i64.wrap ((rz : Int) - 999) = (rz : Int) - 999 := IntWalk.i64_in _ (by omega)
      have Gp10 := Lh (Gd.out.call hm hk)
      have Kp10 := Lh (Kd.out.kp hk (fun j e => by obtain ⟨q1, q2, q3, q4⟩ := Gd.out.h; omega))
      have Bp10 := Lh (hk.blk Bd.out (by obtain ⟨q1, q2, q3, q4⟩ := Gd.out.h; omega))
      clear hrz hm hk
      go_wp2_with fail
      try (refine hk hK ?_; clear hK K)
      refine tg 5 (.int .i64 ((rz : Int) - 999)) ?_
      refine tg 6 (.agg #[.int .i64 7, .string ⟨t2.toArray⟩, .int .i64 ((rz : Int) - 999), .slice none 0 0]) ?_
      refine rm [1, 7] (ac (fun K hK => ?_) (ac (fun K hK => ?_) AllReady.nil))
      ·
       have e3 := Bp10.out.cell 3
       unfold NC at e3
       simp only [g0, gs] at e3
       go_simp
       clear e3
       try (refine hk hK ?_; clear hK K)
       refine r1 7 (fun K hK => ?_)
       refine wp_bs (vs := #[(0, .agg #[.int .i64 7, .string ⟨t2.toArray⟩, .int .i64 ((rz : Int) - 999), .slice none 0 0])]) rfl (by simp [Act.eval]) (bs1 _ _ _ _ _ _ _) ?_
       obtain ⟨Wp13, hW⟩ : ∃ W', Wp10.alloc (.cells #[.int .i64 7, .string ⟨t2.toArray⟩, .int .i64 ((rz : Int) - 999), .slice none 0 0] 25) = W' := ⟨_, rfl⟩
       obtain ⟨gzp13, hgz⟩ : ∃ z, Wp10.heap.size = z := ⟨_, rfl⟩
       have hb0 : Below Wp10.heap.size Wp10 Wp13 := by rw [← hW]; exact (Below.refl _ _).alloc (Nat.le_refl _) _
       have Zp13 := Lh (show Blk Wp13 gzp13 25 (NC 7 t2 ((rz : Int) - 999) (.slice none 0 0)) by rw [← hW, ← hgz]; exact Blk.new _ _ _)
       have Gp13 := Lh (Gp10.out.keep (Kp.of_below' (Z := fun _ => False) hb0) (fun _ h => h.elim))
       have Bp13 := Lh (Bp10.out.below hb0 Bp10.out.lt)
       have Kp13 := Lh (Kp10.out.kp (Kp.of_below' (Z := fun _ => False) hb0) (fun _ h => h.elim))
       have Sp13 := Lh (show nb + 2 ≤ Wp13.heap.size by have h1 := Zp13.out.lt; have h2 := Gp10.out.fit; omega)
       rw [hW, hgz]
       clear hW hb0 hgz
       try (refine hk hK ?_; clear hK K)
       refine r1 8 (fun K hK => ?_)
       have HOW : Wp13.ownsRow (nb + 2) 25 4 (.slice A0 M0 c0) M0 xs := by have h := Kp13.out.own; rw [← HL.out] at h; exact h
       obtain ⟨i0, hi0, hz0, hz1, hz2⟩ := info_parts25
       refine wp_append_lies Wp13 (.tmp 49) (.tmp 55) 23 rfl (nb + 2) 25 i0 ZN 4 56 Tryd.underlying23 hi0 hz0 hz1 hz2 rfl (by decide) (.slice A0 M0 c0) M0 xs rfl HOW ⟨gzp13, 0, none⟩ 1 1 (NC 7 t2 ((rz : Int) - 999) (.slice none 0 0)) rfl rfl Zp13.out.at (nc_one _ _ _ _ _ _) (by decide) (by have := HLb.out; unfold maxLen; omega) (by have := HLb.out; omega) Sp13.out _ rfl ?_
       intro g2p14 capp14 Wp14 hown hgrow hat hlt
       have Pp14 := Lh (push_u Gp13.out Bp13.out Kp13.out (n := .mk 7 t2 ((rz : Int) - 999) []) (NV.leaf (fine_small (by omega) (by omega) (by have := HRz.out; omega) (by have := HRz.out; omega) (by omega))) (by rw [← HL.out]; exact HLb.out) (by rw [← HL.out]; exact hown) hgrow hat)
       rw [← HL.out] at Pp14
       have hn3 := Pp14.out.2.2.2.cell 3; have fn3 := Pp14.out.2.2.2.frozen 3
       unfold NC at hn3
       simp only [g0, gs] at hn3
       clear hown hgrow hat hlt HOW hi0 hz0 hz1 hz2
       try (refine hk hK ?_; clear hK K)
       refine tg 9 (.pointer (some ⟨nb, 3, none⟩)) ?_
       refine r1 10 (fun K hK => ?_)
       go_simp
       clear hn3 fn3
       obtain ⟨wq, hwq⟩ : ∃ W', Wp14.setCell ⟨nb, 3, none⟩ (.slice (some ⟨g2p14, 0, none⟩) (M0 + 1) capp14) = W' := ⟨_, rfl⟩
       rw [hwq] at Pp14 ⊢
       have HP := Lh (And.intro Pp14.out.1 (And.intro Pp14.out.2.1 Pp14.out.2.2.1))
       clear hwq Pp14
       try (refine hk hK ?_; clear hK K)
       refine wpAny_done (by kernel_rfl) ?_ _
       try simp only [zp, zn, zu, zv, zw]
       have HIt2 := Lh (show ∀ x ∈ ml ++ [Nd.mk 7 t2 ((rz : Int) - 999) []], ∃ t z, t ∈ calledL ∧ -999 ≤ z ∧ z ≤ 999 ∧ x = .mk 7 t z [] from fun x hx => by
        rcases List.mem_append.1 hx with hx | hx
        ·
         exact HIt.out x hx
        ·
         rw [List.mem_singleton] at hx
         exact ⟨t2, _, HT2.out, by have := HRz.out; omega, by have := HRz.out; omega, hx⟩)
       go_wp2_with fail
       go_roundw
       case rel =>
        first
         | exact ⟨m + 1, jx + 2, some ⟨g2p14, 0, none⟩, M0 + 1, capp14, ml ++ [.mk 7 t2 ((rz : Int) - 999) []], _, by first | rfl | exact congrArg (Value.int .i64) (by omega), Lh (by rw [HM1.out]; simp), Lh (by rw [HL.out]; simp), Lh (by omega), Lh (by have := HM3.out; omega), Lh HP.out.1, Lh HP.out.2.1, Lh HP.out.2.2, HIt2⟩
         | ((repeat apply Exists.intro); exact ⟨⟨m + 1, jx + 2, some ⟨g2p14, 0, none⟩, M0 + 1, capp14, ml ++ [.mk 7 t2 ((rz : Int) - 999) []], _, by first | rfl | exact congrArg (Value.int .i64) (by omega), Lh (by rw [HM1.out]; simp), Lh (by rw [HL.out]; simp), Lh (by omega), Lh (by have := HM3.out; omega), Lh HP.out.1, Lh HP.out.2.1, Lh HP.out.2.2, HIt2⟩, rfl⟩)
       case measure => simp only [intOf]; omega
      ·
       refine wp_bs (vs := #[(0, .agg #[.int .i64 7, .string ⟨t2.toArray⟩, .int .i64 ((rz : Int) - 999), .slice none 0 0])]) rfl (by simp [Act.eval]) (bs1 _ _ _ _ _ _ _) ?_
       obtain ⟨Wp16, hW⟩ : ∃ W', Wp10.alloc (.cells #[.int .i64 7, .string ⟨t2.toArray⟩, .int .i64 ((rz : Int) - 999), .slice none 0 0] 25) = W' := ⟨_, rfl⟩
       obtain ⟨gzp16, hgz⟩ : ∃ z, Wp10.heap.size = z := ⟨_, rfl⟩
       have hb0 : Below Wp10.heap.size Wp10 Wp16 := by rw [← hW]; exact (Below.refl _ _).alloc (Nat.le_refl _) _
       have Zp16 := Lh (show Blk Wp16 gzp16 25 (NC 7 t2 ((rz : Int) - 999) (.slice none 0 0)) by rw [← hW, ← hgz]; exact Blk.new _ _ _)
       have Gp16 := Lh (Gp10.out.keep (Kp.of_below' (Z := fun _ => False) hb0) (fun _ h => h.elim))
       have Bp16 := Lh (Bp10.out.below hb0 Bp10.out.lt)
       have Kp16 := Lh (Kp10.out.kp (Kp.of_below' (Z := fun _ => False) hb0) (fun _ h => h.elim))
       have Sp16 := Lh (show nb + 2 ≤ Wp16.heap.size by have h1 := Zp16.out.lt; have h2 := Gp10.out.fit; omega)
       rw [hW, hgz]
       clear hW hb0 hgz
       try (refine hk hK ?_; clear hK K)
       refine r1 1 (fun K hK => ?_)
       have e3 := Bp16.out.cell 3
       unfold NC at e3
       simp only [g0, gs] at e3
       go_simp
       clear e3
       try (refine hk hK ?_; clear hK K)
       refine r1 8 (fun K hK => ?_)
       have HOW : Wp16.ownsRow (nb + 2) 25 4 (.slice A0 M0 c0) M0 xs := by have h := Kp16.out.own; rw [← HL.out] at h; exact h
       obtain ⟨i0, hi0, hz0, hz1, hz2⟩ := info_parts25
       refine wp_append_lies Wp16 (.tmp 49) (.tmp 55) 23 rfl (nb + 2) 25 i0 ZN 4 56 Tryd.underlying23 hi0 hz0 hz1 hz2 rfl (by decide) (.slice A0 M0 c0) M0 xs rfl HOW ⟨gzp16, 0, none⟩ 1 1 (NC 7 t2 ((rz : Int) - 999) (.slice none 0 0)) rfl rfl Zp16.out.at (nc_one _ _ _ _ _ _) (by decide) (by have := HLb.out; unfold maxLen; omega) (by have := HLb.out; omega) Sp16.out _ rfl ?_
       intro g2p17 capp17 Wp17 hown hgrow hat hlt
       have Pp17 := Lh (push_u Gp16.out Bp16.out Kp16.out (n := .mk 7 t2 ((rz : Int) - 999) []) (NV.leaf (fine_small (by omega) (by omega) (by have := HRz.out; omega) (by have := HRz.out; omega) (by omega))) (by rw [← HL.out]; exact HLb.out) (by rw [← HL.out]; exact hown) hgrow hat)
       rw [← HL.out] at Pp17
       have hn3 := Pp17.out.2.2.2.cell 3; have fn3 := Pp17.out.2.2.2.frozen 3
       unfold NC at hn3
       simp only [g0, gs] at hn3
       clear hown hgrow hat hlt HOW hi0 hz0 hz1 hz2
       try (refine hk hK ?_; clear hK K)
       refine tg 9 (.pointer (some ⟨nb, 3, none⟩)) ?_
       refine r1 10 (fun K hK => ?_)
       go_simp
       clear hn3 fn3
       obtain ⟨wq, hwq⟩ : ∃ W', Wp17.setCell ⟨nb, 3, none⟩ (.slice (some ⟨g2p17, 0, none⟩) (M0 + 1) capp17) = W' := ⟨_, rfl⟩
       rw [hwq] at Pp17 ⊢
       have HP := Lh (And.intro Pp17.out.1 (And.intro Pp17.out.2.1 Pp17.out.2.2.1))
       clear hwq Pp17
       try (refine hk hK ?_; clear hK K)
       refine wpAny_done (by kernel_rfl) ?_ _
       try simp only [zp, zn, zu, zv, zw]
       have HIt2 := Lh (show ∀ x ∈ ml ++ [Nd.mk 7 t2 ((rz : Int) - 999) []], ∃ t z, t ∈ calledL ∧ -999 ≤ z ∧ z ≤ 999 ∧ x = .mk 7 t z [] from fun x hx => by
        rcases List.mem_append.1 hx with hx | hx
        ·
         exact HIt.out x hx
        ·
         rw [List.mem_singleton] at hx
         exact ⟨t2, _, HT2.out, by have := HRz.out; omega, by have := HRz.out; omega, hx⟩)
       go_wp2_with fail
       go_roundw
       case rel =>
        first
         | exact ⟨m + 1, jx + 2, some ⟨g2p17, 0, none⟩, M0 + 1, capp17, ml ++ [.mk 7 t2 ((rz : Int) - 999) []], _, by first | rfl | exact congrArg (Value.int .i64) (by omega), Lh (by rw [HM1.out]; simp), Lh (by rw [HL.out]; simp), Lh (by omega), Lh (by have := HM3.out; omega), Lh HP.out.1, Lh HP.out.2.1, Lh HP.out.2.2, HIt2⟩
         | ((repeat apply Exists.intro); exact ⟨⟨m + 1, jx + 2, some ⟨g2p17, 0, none⟩, M0 + 1, capp17, ml ++ [.mk 7 t2 ((rz : Int) - 999) []], _, by first | rfl | exact congrArg (Value.int .i64) (by omega), Lh (by rw [HM1.out]; simp), Lh (by rw [HL.out]; simp), Lh (by omega), Lh (by have := HM3.out; omega), Lh HP.out.1, Lh HP.out.2.1, Lh HP.out.2.2, HIt2⟩, rfl⟩)
       case measure => simp only [intOf]; omega
    ·
     have hmr : ¬ (m : Int) < (r4 : Int) := by omega
     have B3 : Hid (Blk wr nb 25 (NC 1 t 0 (.slice A0 M0 c0))) := BR
     have b3 := BR.out
     have UH := Lh UR.out.h
     have HZr := Lh UR.out.z
     have HKr := Lh UR.out.k
     go_upto_region 21 with fail
     clear b3
     have NN3 : Hid (Blk wr nb 25 [.int .i64 1, sv t, .int .i64 0, .slice A0 M0 c0]) := B3
     have ZZ3 : Hid (Blk wr rb 25 [.int .i64 0, .string ⟨#[]⟩, .int .i64 0, .slice none 0 0]) := HZr
     have HV := Lh (show NV wr (fun k => g < k) (.mk 1 t 0 ml) (NC 1 t 0 (.slice A0 M0 c0)) from NV.keep (fun k h1 h2 => ⟨rfl, by have := UH.out; omega⟩) _ _ (KRr.out.nv (k := 1) (t := t) (z := 0) (fine_small (by omega) (by omega) (by omega) (by omega) (by omega))))
     go_wp2_with (first
      | (with_reducible refine wpList_load_cells rfl 25 4 size25 (.tmp 4) rfl ⟨nb, 0, none⟩ rfl [.int .i64 1, sv t, .int .i64 0, .slice A0 M0 c0] rfl _ Tryd.underlying25 rfl NN3.out.at ?_)
      | (with_reducible refine wpList_store_blk rfl 25 4 size25 (.tmp 2) (.tmp 82) rfl rb [.int .i64 1, sv t, .int .i64 0, .slice A0 M0 c0] rfl rfl _ ZZ3.out rfl rfl rfl ?_; intro w8 hb8 hk8))
     refine bodyPost_ret (v := .agg (NC 1 t 0 (.slice A0 M0 c0)).toArray) (box_res 4 size25 rfl _ _ rb (NC 1 t 0 (.slice A0 M0 c0)) _ rfl hb8 rfl Tryd.underlying25 rfl) rfl ⟨.mk 1 t 0 ml, _, rfl, ?_, NV.keep (fun k h1 h2 => ⟨hk8.block k h2 (fun e => by have := HRG.out; omega), by have := HRG.out; omega⟩) _ _ HV.out, HKr.out.trans (hk8.below HKr.out.size (fun k hk e => by have := HRG.out; omega))⟩
     exact ⟨by rw [← HR.out]; exact HKd.out, HT.out, fun h => absurd h (by dsimp only [Nd.kind]; decide), fun h => absurd h (by dsimp only [Nd.kind]; decide), fun h => absurd h (by dsimp only [Nd.kind]; decide), fun h => absurd h (by dsimp only [Nd.kind]; decide), fun _ => ⟨rfl, by show ml.length ≤ 3; have h1 := HM1.out; have h2 := HM3.out; have h3 := HR4.out; omega, HIt.out⟩⟩
  ·
   have b0 := N1.out.cell 0; have b2 := N1.out.cell 2; have f2 := N1.out.frozen 2
   unfold NC at b0 b2
   simp only [g0, gs] at b0 b2
   have HCz := Lh (take_any M1.out (by omega) 4 (by omega) (by omega))
   clear b2 f2
   go_wp2_with fail
   refine HCz.out.mono ?_
   rintro e wz ⟨rz, hrz, _, rfl, hm, hk⟩
   have Rz := Lh (hk.blk R1.out (by have := HRG.out; omega))
   have Nz := Lh (hk.blk N1.out (by have := HG1.out; omega))
   have Kz := Lh (K1.out.trans (hk.below K1.out.size (fun k hk e => by have := HRG.out; omega)))
   have b2 := Nz.out.cell 2; have f2 := Nz.out.frozen 2
   unfold NC at b2
   simp only [g0, gs] at b2
   have hrzI : (rz : Int) < 4 := by omega
   have HRz := Lh hrz
   have qz : IntKind.i64.wrap ((rz : Int) - 999) = (rz : Int) - 999 := IntWalk.i64_in _ (by omega)
   clear hm hk hrz R1 N1 K1 HCz b0
   go_upto_region 21 with fail
   clear b2 f2
   obtain ⟨W9, hW9⟩ : ∃ W', wz.setCell ⟨n1, 2, none⟩ (.int .i64 ((rz : Int))) = W' := ⟨_, rfl⟩
   have k9 := Kp.setCell (Z := fun k => k = n1) wz ⟨n1, 2, none⟩ (.int .i64 ((rz : Int))) rfl
   have N9 := Lh (show Blk (wz.setCell ⟨n1, 2, none⟩ (.int .i64 ((rz : Int)))) n1 25 [iv 2, sv t, .int .i64 ((rz : Int)), .slice none 0 0] from Nz.out.put 2 _)
   have R9 := Lh (k9.blk Rz.out (by have h1 := HRG.out; have h2 := HG1.out; omega))
   have K9 := Lh (Kz.out.trans (k9.below Kz.out.size (fun k hk e => by have h1 := HRG.out; have h2 := HG1.out; omega)))
   rw [hW9] at N9 R9 K9 ⊢
   clear k9 hW9 Rz Nz Kz
   have NN3 : Hid (Blk W9 n1 25 [.int .i64 2, sv t, .int .i64 ((rz : Int)), .slice none 0 0]) := N9
   have ZZ3 : Hid (Blk W9 rb 25 [.int .i64 0, .string ⟨#[]⟩, .int .i64 0, .slice none 0 0]) := R9
   have HV := Lh (show NV W9 (fun k => g < k) (.mk 2 t ((rz : Int)) []) (NC 2 t ((rz : Int)) (.slice none 0 0)) from NV.leaf (fine_small (by omega) (by omega) (by omega) (by have := HRz.out; omega) (by omega)))
   go_wp2_with (first
    | (with_reducible refine wpList_load_cells rfl 25 4 size25 (.tmp 4) rfl ⟨n1, 0, none⟩ rfl [.int .i64 2, sv t, .int .i64 ((rz : Int)), .slice none 0 0] rfl _ Tryd.underlying25 rfl NN3.out.at ?_)
    | (with_reducible refine wpList_store_blk rfl 25 4 size25 (.tmp 2) (.tmp 82) rfl rb [.int .i64 2, sv t, .int .i64 ((rz : Int)), .slice none 0 0] rfl rfl _ ZZ3.out rfl rfl rfl ?_; intro w8 hb8 hk8))
   refine bodyPost_ret (v := .agg (NC 2 t ((rz : Int)) (.slice none 0 0)).toArray) (box_res 4 size25 rfl _ _ rb (NC 2 t ((rz : Int)) (.slice none 0 0)) _ rfl hb8 rfl Tryd.underlying25 rfl) rfl ⟨.mk 2 t ((rz : Int)) [], _, rfl, ?_, NV.keep (fun k h1 h2 => ⟨hk8.block k h2 (fun e => by have := HRG.out; omega), by have := HRG.out; omega⟩) _ _ HV.out, K9.out.trans (hk8.below K9.out.size (fun k hk e => by have := HRG.out; omega))⟩
   exact ⟨by rw [← HR.out]; exact HKd.out, HT.out, fun h => absurd h (by dsimp only [Nd.kind]; decide), fun h => absurd h (by dsimp only [Nd.kind]; decide), fun _ => ⟨rfl, (by show (0 : Int) ≤ (rz : Int); omega), (by show (rz : Int) ≤ 3; have := HRz.out; omega)⟩, fun h => absurd h (by dsimp only [Nd.kind]; decide), fun h => absurd h (by dsimp only [Nd.kind]; decide)⟩
  ·
   have b0 := N1.out.cell 0
   unfold NC at b0
   simp only [g0, gs] at b0
   go_upto_region 21 with fail
   clear b0
   have NN3 : Hid (Blk wc n1 25 [.int .i64 3, sv t, .int .i64 0, .slice none 0 0]) := N1
   have ZZ3 : Hid (Blk wc rb 25 [.int .i64 0, .string ⟨#[]⟩, .int .i64 0, .slice none 0 0]) := R1
   have HV := Lh (show NV wc (fun k => g < k) (.mk 3 t 0 []) (NC 3 t 0 (.slice none 0 0)) from NV.leaf (fine_small (by omega) (by omega) (by omega) (by omega) (by omega)))
   go_wp2_with (first
    | (with_reducible refine wpList_load_cells rfl 25 4 size25 (.tmp 4) rfl ⟨n1, 0, none⟩ rfl [.int .i64 3, sv t, .int .i64 0, .slice none 0 0] rfl _ Tryd.underlying25 rfl NN3.out.at ?_)
    | (with_reducible refine wpList_store_blk rfl 25 4 size25 (.tmp 2) (.tmp 82) rfl rb [.int .i64 3, sv t, .int .i64 0, .slice none 0 0] rfl rfl _ ZZ3.out rfl rfl rfl ?_; intro w8 hb8 hk8))
   refine bodyPost_ret (v := .agg (NC 3 t 0 (.slice none 0 0)).toArray) (box_res 4 size25 rfl _ _ rb (NC 3 t 0 (.slice none 0 0)) _ rfl hb8 rfl Tryd.underlying25 rfl) rfl ⟨.mk 3 t 0 [], _, rfl, ?_, NV.keep (fun k h1 h2 => ⟨hk8.block k h2 (fun e => by have := HRG.out; omega), by have := HRG.out; omega⟩) _ _ HV.out, K1.out.trans (hk8.below K1.out.size (fun k hk e => by have := HRG.out; omega))⟩
   exact ⟨by rw [← HR.out]; exact HKd.out, HT.out, fun h => absurd h (by dsimp only [Nd.kind]; decide), fun h => absurd h (by dsimp only [Nd.kind]; decide), fun h => absurd h (by dsimp only [Nd.kind]; decide), fun _ => ⟨rfl, rfl⟩, fun h => absurd h (by dsimp only [Nd.kind]; decide)⟩
  ·
   have b0 := N1.out.cell 0
   unfold NC at b0
   simp only [g0, gs] at b0
   go_upto_region 21 with fail
   clear b0
   have NN3 : Hid (Blk wc n1 25 [.int .i64 4, sv t, .int .i64 0, .slice none 0 0]) := N1
   have ZZ3 : Hid (Blk wc rb 25 [.int .i64 0, .string ⟨#[]⟩, .int .i64 0, .slice none 0 0]) := R1
   have HV := Lh (show NV wc (fun k => g < k) (.mk 4 t 0 []) (NC 4 t 0 (.slice none 0 0)) from NV.leaf (fine_small (by omega) (by omega) (by omega) (by omega) (by omega)))
   go_wp2_with (first
    | (with_reducible refine wpList_load_cells rfl 25 4 size25 (.tmp 4) rfl ⟨n1, 0, none⟩ rfl [.int .i64 4, sv t, .int .i64 0, .slice none 0 0] rfl _ Tryd.underlying25 rfl NN3.out.at ?_)
    | (with_reducible refine wpList_store_blk rfl 25 4 size25 (.tmp 2) (.tmp 82) rfl rb [.int .i64 4, sv t, .int .i64 0, .slice none 0 0] rfl rfl _ ZZ3.out rfl rfl rfl ?_; intro w8 hb8 hk8))
   refine bodyPost_ret (v := .agg (NC 4 t 0 (.slice none 0 0)).toArray) (box_res 4 size25 rfl _ _ rb (NC 4 t 0 (.slice none 0 0)) _ rfl hb8 rfl Tryd.underlying25 rfl) rfl ⟨.mk 4 t 0 [], _, rfl, ?_, NV.keep (fun k h1 h2 => ⟨hk8.block k h2 (fun e => by have := HRG.out; omega), by have := HRG.out; omega⟩) _ _ HV.out, K1.out.trans (hk8.below K1.out.size (fun k hk e => by have := HRG.out; omega))⟩
   exact ⟨by rw [← HR.out]; exact HKd.out, HT.out, fun h => absurd h (by dsimp only [Nd.kind]; decide), fun h => absurd h (by dsimp only [Nd.kind]; decide), fun h => absurd h (by dsimp only [Nd.kind]; decide), fun _ => ⟨rfl, rfl⟩, fun h => absurd h (by dsimp only [Nd.kind]; decide)⟩
  ·
   have b0 := N1.out.cell 0
   unfold NC at b0
   simp only [g0, gs] at b0
   go_upto_region 17 with fail
   clear b0
   go_wp2_with fail
   obtain ⟨nb, hnb⟩ : ∃ z, wc.heap.size = z := ⟨_, rfl⟩
   obtain ⟨w1, hw1⟩ : ∃ w', wc.alloc (.cells #[.int .i64 8, .string ⟨#[]⟩, .int .i64 0, .slice none 0 0] 25) = w' := ⟨_, rfl⟩
   have lb : Below wc.heap.size wc w1 := by rw [← hw1]; exact (Below.refl _ _).alloc (Nat.le_refl _) _
   have B1 := Lh (show Blk w1 nb 25 (NC 8 [] 0 (.slice none 0 0)) by rw [← hw1, ← hnb]; exact Blk.new wc _ _)
   have T1 := Lh (show TS g rb n1 nb 5 t w w1 (.slice A L.length c) L 2 from ⟨M1.out.below lb, R1.out.below lb R1.out.lt, N1.out.below lb N1.out.lt, below_step K1.out lb, HRG.out.1, HRG.out.2, HG1.out, by have := N1.out.lt; omega, B1.out.lt⟩)
   rw [hnb, hw1]
   clear lb hw1 hnb M1 R1 N1 K1
   go_loopg [] (L.length - 2) (fun k wr => ∃ (j : Nat) (A0 : Option Addr) (M0 c0 : Nat) (ml : List Nd) (xs : List Value), Hid (TS g rb n1 nb 5 t w wr (.slice A L.length c) L j) ∧ Hid (Blk wr nb 25 (NC 8 [] 0 (.slice A0 M0 c0))) ∧ Hid (KR wr nb (.slice A0 M0 c0) ml xs) ∧ Hid (M0 = ml.length) ∧ Hid (TP L.length ml j) ∧ Hid (L.length - j = k))
   case atStart => exact ⟨2, none, 0, 0, [], [], T1, B1, Lh (KR.nil _ _), Lh rfl, Lh (tp_start _), Lh rfl⟩
   case round =>
    clear T1 B1
    obtain ⟨j, A0, M0, c0, ml, xs, TR, BR, KRr, HL, HTP, HM⟩ := hrel
    by_cases hj : j < L.length
    ·
     have hjI : (j : Int) < (L.length : Int) := by omega
     have HJ := Lh hj
     have HLb := Lh (show M0 + 1 ≤ 8589934592 by have h1 := HL.out; have h2 := HTP.out.n; have h3 := HL48.out; omega)
     have HC := Lh (fun W (hW : MS g W (.slice A L.length c) L j) => one_any 2 (by omega) hW HJ.out (by have h1 := HL48.out; have h2 := HJ.out; simp only [Ko]; omega))
     clear hj
     go_upto_region 18 with fail
     refine wp_region_held (S := fun W => Blk W g 41 [.slice A L.length c, nv j]) (by kernel_rfl) ?_
     change wpAnyH _ _ _ _ _ _ _ _ (World.drew wr)
     have hs0 : Blk (World.drew wr) g 41 [.slice A L.length c, nv j] := TR.out.m.b
     have T2 := Lh (TR.out.keep (Kp.drew (fun _ => False) wr) (fun _ h => h.elim))
     have B2 := Lh (BR.out.drew)
     have K2 := Lh (KRr.out.kp (Kp.drew (fun _ => False) wr) (fun _ h => h.elim))
     generalize World.drew wr = w2 at T2 B2 K2 hs0 ⊢
     clear TR BR KRr
     refine tgH 0 (pt g) hs0 ?_
     refine tgH 1 (pt g) hs0 ?_
     refine tgH 2 (.pointer (some ⟨g, 1, none⟩)) hs0 ?_
     refine tfH 3 (nv j) hs0 ?_ ?_
     exact fun W hW => by have hcl : W.cell? ⟨g, 1, none⟩ = some (nv j) := (Blk.cell hW 1).trans rfl; go_simp
     refine tgH 4 (pt g) hs0 ?_
     refine tgH 5 (pt g) hs0 ?_
     refine tgH 6 (.pointer (some ⟨g, 0, none⟩)) hs0 ?_
     refine tfH 7 (.slice A L.length c) hs0 ?_ ?_
     exact fun W hW => by have hcl : W.cell? ⟨g, 0, none⟩ = some (.slice A L.length c) := (Blk.cell hW 0).trans rfl; go_simp
     refine tgH 8 (.int .i64 (L.length : Int)) hs0 ?_
     refine tgH 9 (.bool true) hs0 ?_
     refine wpAnyH_done (by kernel_rfl) ?_ _
     try simp only [zp, zn, zu, zv, zw]
     clear hs0
     go_upto_region 19 with fail
     refine wp_region_any (by kernel_rfl) ?_
     change wpAny _ _ _ _ _ _ _ (World.drew w2)
     have Gd := Lh (T2.out.keep (Kp.drew (fun _ => False) w2) (fun _ h => h.elim))
     have Bd := Lh (B2.out.drew)
     have Kd := Lh (K2.out.kp (Kp.drew (fun _ => False) w2) (fun _ h => h.elim))
     generalize World.drew w2 = wdp at Gd Bd Kd ⊢
     refine tg 0 (.pointer (some ⟨nb, 3, none⟩)) ?_
     refine tg 2 (pt g) ?_
     refine rm [1, 3] (ac (fun K hK => ?_) (ac (fun K hK => ?_) AllReady.nil))
     ·
      have e3 := Bd.out.cell 3
      unfold NC at e3
      simp only [g0, gs] at e3
      go_simp
      clear e3
      try (refine hk hK ?_; clear hK K)
      refine r1 3 (fun K hK => ?_)
      go_simp
      refine (HC.out _ Gd.out.m).mono ?_
      rintro e Wp3 ⟨np3, jp3, csp3, rfl, hf, hm, hv, hk, hs⟩
      obtain ⟨kp3, tp3, zp3, lp3⟩ := np3
      obtain ⟨Ap3, cp3, ysp3, hcs, _⟩ := hv.form
      subst hcs
      have Fp3 := Lh hf
      have Gp3 := Lh (Gd.out.call hm hk)
      have Kp3 := Lh (Kd.out.kp hk (fun j e => by obtain ⟨q1, q2, q3, q4⟩ := Gd.out.h; omega))
      have Bp3 := Lh (hk.blk Bd.out (by obtain ⟨q1, q2, q3, q4⟩ := Gd.out.h; omega))
      have Vp3 := Lh (kid_far hv Kd.out hk Gd.out.fit)
      clear hf hm hv hk hs
      dsimp only [NC]
      go_wp2_with fail
      try (refine hk hK ?_; clear hK K)
      refine r1 4 (fun K hK => ?_)
      refine wp_bs (vs := #[(0, .agg #[.int .i64 kp3, .string ⟨tp3.toArray⟩, .int .i64 zp3, .slice Ap3 lp3.length cp3])]) rfl (by simp [Act.eval]) (bs1 _ _ _ _ _ _ _) ?_
      obtain ⟨Wp4, hW⟩ : ∃ W', Wp3.alloc (.cells #[.int .i64 kp3, .string ⟨tp3.toArray⟩, .int .i64 zp3, .slice Ap3 lp3.length cp3] 25) = W' := ⟨_, rfl⟩
      obtain ⟨gzp4, hgz⟩ : ∃ z, Wp3.heap.size = z := ⟨_, rfl⟩
      have hb0 : Below Wp3.heap.size Wp3 Wp4 := by rw [← hW]; exact (Below.refl _ _).alloc (Nat.le_refl _) _
      have Zp4 := Lh (show Blk Wp4 gzp4 25 (NC kp3 tp3 zp3 (.slice Ap3 lp3.length cp3)) by rw [← hW, ← hgz]; exact Blk.new _ _ _)
      have Gp4 := Lh (Gp3.out.keep (Kp.of_below' (Z := fun _ => False) hb0) (fun _ h => h.elim))
      have Bp4 := Lh (Bp3.out.below hb0 Bp3.out.lt)
      have Kp4 := Lh (Kp3.out.kp (Kp.of_below' (Z := fun _ => False) hb0) (fun _ h => h.elim))
      have Vp4 := Lh ((Kp.of_below' (Z := fun _ => False) hb0).nv Vp3.out (fun _ _ _ h => h))
      have Sp4 := Lh (show nb + 2 ≤ Wp4.heap.size by have h1 := Zp4.out.lt; have h2 := Gp3.out.fit; omega)
      rw [hW, hgz]
      clear hW hb0 hgz
      try (refine hk hK ?_; clear hK K)
      refine r1 5 (fun K hK => ?_)
      have HOW : Wp4.ownsRow (nb + 2) 25 4 (.slice A0 M0 c0) M0 xs := by have h := Kp4.out.own; rw [← HL.out] at h; exact h
      obtain ⟨i0, hi0, hz0, hz1, hz2⟩ := info_parts25
      refine wp_append_lies Wp4 (.tmp 73) (.tmp 76) 23 rfl (nb + 2) 25 i0 ZN 4 56 Tryd.underlying23 hi0 hz0 hz1 hz2 rfl (by decide) (.slice A0 M0 c0) M0 xs rfl HOW ⟨gzp4, 0, none⟩ 1 1 (NC kp3 tp3 zp3 (.slice Ap3 lp3.length cp3)) rfl rfl Zp4.out.at (nc_one _ _ _ _ _ _) (by decide) (by have := HLb.out; unfold maxLen; omega) (by have := HLb.out; omega) Sp4.out _ rfl ?_
      intro g2p5 capp5 Wp5 hown hgrow hat hlt
      have Pp5 := Lh (push_t Gp4.out Bp4.out Kp4.out Vp4.out (by rw [← HL.out]; exact HLb.out) (by rw [← HL.out]; exact hown) hgrow hat)
      rw [← HL.out] at Pp5
      have hn3 := Pp5.out.2.2.2.cell 3; have fn3 := Pp5.out.2.2.2.frozen 3
      unfold NC at hn3
      simp only [g0, gs] at hn3
      clear hown hgrow hat hlt HOW hi0 hz0 hz1 hz2
      try (refine hk hK ?_; clear hK K)
      refine tg 6 (.pointer (some ⟨nb, 3, none⟩)) ?_
      refine r1 7 (fun K hK => ?_)
      go_simp
      clear hn3 fn3
      obtain ⟨wq, hwq⟩ : ∃ W', Wp5.setCell ⟨nb, 3, none⟩ (.slice (some ⟨g2p5, 0, none⟩) (M0 + 1) capp5) = W' := ⟨_, rfl⟩
      rw [hwq] at Pp5 ⊢
      have HP := Lh (And.intro Pp5.out.1 (And.intro Pp5.out.2.1 Pp5.out.2.2.1))
      have HF := Fp3
      clear hwq Pp5
      try (refine hk hK ?_; clear hK K)
      refine wpAny_done (by kernel_rfl) ?_ _
      try simp only [zp, zn, zu, zv, zw]
      go_wp2_with fail
      go_roundg (L.length - jp3)
      case measure => have h1 := HF.out.lo; have h2 := HJ.out; have h3 := HM.out; omega
      case rel => exact ⟨jp3, some ⟨g2p5, 0, none⟩, M0 + 1, capp5, ml ++ [.mk kp3 tp3 zp3 lp3], _, Lh HP.out.1, Lh HP.out.2.1, Lh HP.out.2.2, Lh (by rw [HL.out]; simp), Lh (tp_step HTP.out HJ.out HF.out), Lh rfl⟩
     ·
      go_simp
      refine (HC.out _ Gd.out.m).mono ?_
      rintro e Wp7 ⟨np7, jp7, csp7, rfl, hf, hm, hv, hk, hs⟩
      obtain ⟨kp7, tp7, zp7, lp7⟩ := np7
      obtain ⟨Ap7, cp7, ysp7, hcs, _⟩ := hv.form
      subst hcs
      have Fp7 := Lh hf
      have Gp7 := Lh (Gd.out.call hm hk)
      have Kp7 := Lh (Kd.out.kp hk (fun j e => by obtain ⟨q1, q2, q3, q4⟩ := Gd.out.h; omega))
      have Bp7 := Lh (hk.blk Bd.out (by obtain ⟨q1, q2, q3, q4⟩ := Gd.out.h; omega))
      have Vp7 := Lh (kid_far hv Kd.out hk Gd.out.fit)
      clear hf hm hv hk hs
      dsimp only [NC]
      go_wp2_with fail
      try (refine hk hK ?_; clear hK K)
      refine rm [1, 4] (ac (fun K hK => ?_) (ac (fun K hK => ?_) AllReady.nil))
      ·
       have e3 := Bp7.out.cell 3
       unfold NC at e3
       simp only [g0, gs] at e3
       go_simp
       clear e3
       try (refine hk hK ?_; clear hK K)
       refine r1 4 (fun K hK => ?_)
       refine wp_bs (vs := #[(0, .agg #[.int .i64 kp7, .string ⟨tp7.toArray⟩, .int .i64 zp7, .slice Ap7 lp7.length cp7])]) rfl (by simp [Act.eval]) (bs1 _ _ _ _ _ _ _) ?_
       obtain ⟨Wp8, hW⟩ : ∃ W', Wp7.alloc (.cells #[.int .i64 kp7, .string ⟨tp7.toArray⟩, .int .i64 zp7, .slice Ap7 lp7.length cp7] 25) = W' := ⟨_, rfl⟩
       obtain ⟨gzp8, hgz⟩ : ∃ z, Wp7.heap.size = z := ⟨_, rfl⟩
       have hb0 : Below Wp7.heap.size Wp7 Wp8 := by rw [← hW]; exact (Below.refl _ _).alloc (Nat.le_refl _) _
       have Zp8 := Lh (show Blk Wp8 gzp8 25 (NC kp7 tp7 zp7 (.slice Ap7 lp7.length cp7)) by rw [← hW, ← hgz]; exact Blk.new _ _ _)
       have Gp8 := Lh (Gp7.out.keep (Kp.of_below' (Z := fun _ => False) hb0) (fun _ h => h.elim))
       have Bp8 := Lh (Bp7.out.below hb0 Bp7.out.lt)
       have Kp8 := Lh (Kp7.out.kp (Kp.of_below' (Z := fun _ => False) hb0) (fun _ h => h.elim))
       have Vp8 := Lh ((Kp.of_below' (Z := fun _ => False) hb0).nv Vp7.out (fun _ _ _ h => h))
       have Sp8 := Lh (show nb + 2 ≤ Wp8.heap.size by have h1 := Zp8.out.lt; have h2 := Gp7.out.fit; omega)
       rw [hW, hgz]
       clear hW hb0 hgz
       try (refine hk hK ?_; clear hK K)
       refine r1 5 (fun K hK => ?_)
       have HOW : Wp8.ownsRow (nb + 2) 25 4 (.slice A0 M0 c0) M0 xs := by have h := Kp8.out.own; rw [← HL.out] at h; exact h
       obtain ⟨i0, hi0, hz0, hz1, hz2⟩ := info_parts25
       refine wp_append_lies Wp8 (.tmp 73) (.tmp 76) 23 rfl (nb + 2) 25 i0 ZN 4 56 Tryd.underlying23 hi0 hz0 hz1 hz2 rfl (by decide) (.slice A0 M0 c0) M0 xs rfl HOW ⟨gzp8, 0, none⟩ 1 1 (NC kp7 tp7 zp7 (.slice Ap7 lp7.length cp7)) rfl rfl Zp8.out.at (nc_one _ _ _ _ _ _) (by decide) (by have := HLb.out; unfold maxLen; omega) (by have := HLb.out; omega) Sp8.out _ rfl ?_
       intro g2p9 capp9 Wp9 hown hgrow hat hlt
       have Pp9 := Lh (push_t Gp8.out Bp8.out Kp8.out Vp8.out (by rw [← HL.out]; exact HLb.out) (by rw [← HL.out]; exact hown) hgrow hat)
       rw [← HL.out] at Pp9
       have hn3 := Pp9.out.2.2.2.cell 3; have fn3 := Pp9.out.2.2.2.frozen 3
       unfold NC at hn3
       simp only [g0, gs] at hn3
       clear hown hgrow hat hlt HOW hi0 hz0 hz1 hz2
       try (refine hk hK ?_; clear hK K)
       refine tg 6 (.pointer (some ⟨nb, 3, none⟩)) ?_
       refine r1 7 (fun K hK => ?_)
       go_simp
       clear hn3 fn3
       obtain ⟨wq, hwq⟩ : ∃ W', Wp9.setCell ⟨nb, 3, none⟩ (.slice (some ⟨g2p9, 0, none⟩) (M0 + 1) capp9) = W' := ⟨_, rfl⟩
       rw [hwq] at Pp9 ⊢
       have HP := Lh (And.intro Pp9.out.1 (And.intro Pp9.out.2.1 Pp9.out.2.2.1))
       have HF := Fp7
       clear hwq Pp9
       try (refine hk hK ?_; clear hK K)
       refine wpAny_done (by kernel_rfl) ?_ _
       try simp only [zp, zn, zu, zv, zw]
       go_wp2_with fail
       go_roundg (L.length - jp7)
       case measure => have h1 := HF.out.lo; have h2 := HJ.out; have h3 := HM.out; omega
       case rel => exact ⟨jp7, some ⟨g2p9, 0, none⟩, M0 + 1, capp9, ml ++ [.mk kp7 tp7 zp7 lp7], _, Lh HP.out.1, Lh HP.out.2.1, Lh HP.out.2.2, Lh (by rw [HL.out]; simp), Lh (tp_step HTP.out HJ.out HF.out), Lh rfl⟩
      ·
       refine wp_bs (vs := #[(0, .agg #[.int .i64 kp7, .string ⟨tp7.toArray⟩, .int .i64 zp7, .slice Ap7 lp7.length cp7])]) rfl (by simp [Act.eval]) (bs1 _ _ _ _ _ _ _) ?_
       obtain ⟨Wp11, hW⟩ : ∃ W', Wp7.alloc (.cells #[.int .i64 kp7, .string ⟨tp7.toArray⟩, .int .i64 zp7, .slice Ap7 lp7.length cp7] 25) = W' := ⟨_, rfl⟩
       obtain ⟨gzp11, hgz⟩ : ∃ z, Wp7.heap.size = z := ⟨_, rfl⟩
       have hb0 : Below Wp7.heap.size Wp7 Wp11 := by rw [← hW]; exact (Below.refl _ _).alloc (Nat.le_refl _) _
       have Zp11 := Lh (show Blk Wp11 gzp11 25 (NC kp7 tp7 zp7 (.slice Ap7 lp7.length cp7)) by rw [← hW, ← hgz]; exact Blk.new _ _ _)
       have Gp11 := Lh (Gp7.out.keep (Kp.of_below' (Z := fun _ => False) hb0) (fun _ h => h.elim))
       have Bp11 := Lh (Bp7.out.below hb0 Bp7.out.lt)
       have Kp11 := Lh (Kp7.out.kp (Kp.of_below' (Z := fun _ => False) hb0) (fun _ h => h.elim))
       have Vp11 := Lh ((Kp.of_below' (Z := fun _ => False) hb0).nv Vp7.out (fun _ _ _ h => h))
       have Sp11 := Lh (show nb + 2 ≤ Wp11.heap.size by have h1 := Zp11.out.lt; have h2 := Gp7.out.fit; omega)
       rw [hW, hgz]
       clear hW hb0 hgz
       try (refine hk hK ?_; clear hK K)
       refine r1 1 (fun K hK => ?_)
       have e3 := Bp11.out.cell 3
       unfold NC at e3
       simp only [g0, gs] at e3
       go_simp
       clear e3
       try (refine hk hK ?_; clear hK K)
       refine r1 5 (fun K hK => ?_)
       have HOW : Wp11.ownsRow (nb + 2) 25 4 (.slice A0 M0 c0) M0 xs := by have h := Kp11.out.own; rw [← HL.out] at h; exact h
       obtain ⟨i0, hi0, hz0, hz1, hz2⟩ := info_parts25
       refine wp_append_lies Wp11 (.tmp 73) (.tmp 76) 23 rfl (nb + 2) 25 i0 ZN 4 56 Tryd.underlying23 hi0 hz0 hz1 hz2 rfl (by decide) (.slice A0 M0 c0) M0 xs rfl HOW ⟨gzp11, 0, none⟩ 1 1 (NC kp7 tp7 zp7 (.slice Ap7 lp7.length cp7)) rfl rfl Zp11.out.at (nc_one _ _ _ _ _ _) (by decide) (by have := HLb.out; unfold maxLen; omega) (by have := HLb.out; omega) Sp11.out _ rfl ?_
       intro g2p12 capp12 Wp12 hown hgrow hat hlt
       have Pp12 := Lh (push_t Gp11.out Bp11.out Kp11.out Vp11.out (by rw [← HL.out]; exact HLb.out) (by rw [← HL.out]; exact hown) hgrow hat)
       rw [← HL.out] at Pp12
       have hn3 := Pp12.out.2.2.2.cell 3; have fn3 := Pp12.out.2.2.2.frozen 3
       unfold NC at hn3
       simp only [g0, gs] at hn3
       clear hown hgrow hat hlt HOW hi0 hz0 hz1 hz2
       try (refine hk hK ?_; clear hK K)
       refine tg 6 (.pointer (some ⟨nb, 3, none⟩)) ?_
       refine r1 7 (fun K hK => ?_)
       go_simp
       clear hn3 fn3
       obtain ⟨wq, hwq⟩ : ∃ W', Wp12.setCell ⟨nb, 3, none⟩ (.slice (some ⟨g2p12, 0, none⟩) (M0 + 1) capp12) = W' := ⟨_, rfl⟩
       rw [hwq] at Pp12 ⊢
       have HP := Lh (And.intro Pp12.out.1 (And.intro Pp12.out.2.1 Pp12.out.2.2.1))
       have HF := Fp7
       clear hwq Pp12
       try (refine hk hK ?_; clear hK K)
       refine wpAny_done (by kernel_rfl) ?_ _
       try simp only [zp, zn, zu, zv, zw]
       go_wp2_with fail
       go_roundg (L.length - jp7)
       case measure => have h1 := HF.out.lo; have h2 := HJ.out; have h3 := HM.out; omega
       case rel => exact ⟨jp7, some ⟨g2p12, 0, none⟩, M0 + 1, capp12, ml ++ [.mk kp7 tp7 zp7 lp7], _, Lh HP.out.1, Lh HP.out.2.1, Lh HP.out.2.2, Lh (by rw [HL.out]; simp), Lh (tp_step HTP.out HJ.out HF.out), Lh rfl⟩
    ·
     have hjI : ¬ (j : Int) < (L.length : Int) := by omega
     clear hj
     go_upto_region 18 with fail
     refine wp_region_held (S := fun W => Blk W g 41 [.slice A L.length c, nv j]) (by kernel_rfl) ?_
     change wpAnyH _ _ _ _ _ _ _ _ (World.drew wr)
     have hs0 : Blk (World.drew wr) g 41 [.slice A L.length c, nv j] := TR.out.m.b
     have T2 := Lh (TR.out.keep (Kp.drew (fun _ => False) wr) (fun _ h => h.elim))
     have B2 := Lh (BR.out.drew)
     have K2 := Lh (KRr.out.kp (Kp.drew (fun _ => False) wr) (fun _ h => h.elim))
     generalize World.drew wr = w2 at T2 B2 K2 hs0 ⊢
     clear TR BR KRr
     refine tgH 0 (pt g) hs0 ?_
     refine tgH 1 (pt g) hs0 ?_
     refine tgH 2 (.pointer (some ⟨g, 1, none⟩)) hs0 ?_
     refine tfH 3 (nv j) hs0 ?_ ?_
     exact fun W hW => by have hcl : W.cell? ⟨g, 1, none⟩ = some (nv j) := (Blk.cell hW 1).trans rfl; go_simp
     refine tgH 4 (pt g) hs0 ?_
     refine tgH 5 (pt g) hs0 ?_
     refine tgH 6 (.pointer (some ⟨g, 0, none⟩)) hs0 ?_
     refine tfH 7 (.slice A L.length c) hs0 ?_ ?_
     exact fun W hW => by have hcl : W.cell? ⟨g, 0, none⟩ = some (.slice A L.length c) := (Blk.cell hW 0).trans rfl; go_simp
     refine tgH 8 (.int .i64 (L.length : Int)) hs0 ?_
     refine tgH 9 (.bool false) hs0 ?_
     refine wpAnyH_done (by kernel_rfl) ?_ _
     try simp only [zp, zn, zu, zv, zw]
     clear hs0
     have HS := Lh T2.out.h
     have B3 : Hid (Blk w2 nb 25 [.int .i64 8, .string ⟨#[]⟩, .int .i64 0, .slice A0 M0 c0]) := B2
     have HVb := Lh (NV.under (K2.out.nv (k := 8) (t := []) (z := 0) (fine_small (by omega) (by omega) (by omega) (by omega) (by simp))))
     go_upto_region 21 with (first
      | (with_reducible refine wpList_load_cells rfl 25 4 size25 (.tmp 8) rfl ⟨nb, 0, none⟩ rfl [.int .i64 8, .string ⟨#[]⟩, .int .i64 0, .slice A0 M0 c0] rfl _ Tryd.underlying25 rfl B3.out.at ?_)
      | (with_reducible refine wpList_bs1 rfl rfl rfl ?_; intro gz Wb hgq hX hB; have hgz := Lh hgq; clear hgq; have bq := (Blk.below T2.out.n hB T2.out.n.lt).cell 3; have fq := (Blk.below T2.out.n hB T2.out.n.lt).frozen 3; unfold NC at bq; simp only [g0, gs] at bq))
     have T3 := Lh (T2.out.keep (Kp.of_below' (Z := fun _ => False) hB) (fun _ h => h.elim))
     have X3 := Lh hX
     have V3 := Lh (NV.keep (P' := fun k => g < k ∧ k ≠ n1) (fun k h1 h2 => ⟨hB.block k h2, by have := HS.out; omega⟩) _ _ HVb.out)
     have HGz := Lh (show n1 < gz by have := HS.out; have := hgz.out; omega)
     clear hX hB T2 HVb B2 B3 K2
     obtain ⟨W9, hW9⟩ : ∃ W', Wb.setCell ⟨n1, 3, none⟩ (.slice (some ⟨gz, 0, none⟩) 1 1) = W' := ⟨_, rfl⟩
     have k9 := Kp.setCell (Z := fun k => k = n1) Wb ⟨n1, 3, none⟩ (.slice (some ⟨gz, 0, none⟩) 1 1) rfl
     have N9 := Lh (show Blk (Wb.setCell ⟨n1, 3, none⟩ (.slice (some ⟨gz, 0, none⟩) 1 1)) n1 25 [iv 5, sv t, .int .i64 0, .slice (some ⟨gz, 0, none⟩) 1 1] from T3.out.n.put 3 _)
     have R9 := Lh (k9.blk T3.out.z (by have := HS.out; omega))
     have X9 := Lh (k9.blk X3.out (by have := HGz.out; omega))
     have V9 := Lh (NV.keep (P' := fun k => g < k) (fun k h1 h2 => ⟨k9.block k h2 h1.2, h1.1⟩) _ _ V3.out)
     have K9 := Lh (T3.out.k.trans (k9.below T3.out.k.size (fun k hk e => by have := HS.out; omega)))
     rw [hW9] at N9 R9 X9 V9 K9 ⊢
     clear k9 hW9 T3 X3 bq fq
     have NN3 : Hid (Blk W9 n1 25 [.int .i64 5, sv t, .int .i64 0, .slice (some ⟨gz, 0, none⟩) 1 1]) := N9
     have ZZ3 : Hid (Blk W9 rb 25 [.int .i64 0, .string ⟨#[]⟩, .int .i64 0, .slice none 0 0]) := R9
     have HV := Lh (show NV W9 (fun k => g < k) (.mk 5 t 0 [.mk 8 [] 0 ml]) (NC 5 t 0 (.slice (some ⟨gz, 0, none⟩) 1 1)) from nv_built (l := [_]) X9.out (by have h1 := HS.out; have h2 := HGz.out; omega) (NL.one V9.out) (fine_small (by omega) (by omega) (by omega) (by omega) (by omega)) (by simp))
     go_wp2_with (first
      | (with_reducible refine wpList_load_cells rfl 25 4 size25 (.tmp 4) rfl ⟨n1, 0, none⟩ rfl [.int .i64 5, sv t, .int .i64 0, .slice (some ⟨gz, 0, none⟩) 1 1] rfl _ Tryd.underlying25 rfl NN3.out.at ?_)
      | (with_reducible refine wpList_store_blk rfl 25 4 size25 (.tmp 2) (.tmp 82) rfl rb [.int .i64 5, sv t, .int .i64 0, .slice (some ⟨gz, 0, none⟩) 1 1] rfl rfl _ ZZ3.out rfl rfl rfl ?_; intro w8 hb8 hk8))
     refine bodyPost_ret (v := .agg (NC 5 t 0 (.slice (some ⟨gz, 0, none⟩) 1 1)).toArray) (box_res 4 size25 rfl _ _ rb (NC 5 t 0 (.slice (some ⟨gz, 0, none⟩) 1 1)) _ rfl hb8 rfl Tryd.underlying25 rfl) rfl ⟨.mk 5 t 0 [.mk 8 [] 0 ml], _, rfl, ?_, NV.keep (fun k h1 h2 => ⟨hk8.block k h2 (fun e => by have := HRG.out; omega), by have := HRG.out; omega⟩) _ _ HV.out, K9.out.trans (hk8.below K9.out.size (fun k hk e => by have := HRG.out; omega))⟩
     exact ⟨by rw [← HR.out]; exact HKd.out, HT.out, fun _ => ⟨ml, j, rfl, HTP.out⟩, fun h => absurd h (by dsimp only [Nd.kind]; decide), fun h => absurd h (by dsimp only [Nd.kind]; decide), fun h => absurd h (by dsimp only [Nd.kind]; decide), fun h => absurd h (by dsimp only [Nd.kind]; decide)⟩
  ·
   have b0 := N1.out.cell 0
   unfold NC at b0
   simp only [g0, gs] at b0
   go_upto_region 17 with fail
   clear b0
   go_wp2_with fail
   obtain ⟨nb, hnb⟩ : ∃ z, wc.heap.size = z := ⟨_, rfl⟩
   obtain ⟨w1, hw1⟩ : ∃ w', wc.alloc (.cells #[.int .i64 8, .string ⟨#[]⟩, .int .i64 0, .slice none 0 0] 25) = w' := ⟨_, rfl⟩
   have lb : Below wc.heap.size wc w1 := by rw [← hw1]; exact (Below.refl _ _).alloc (Nat.le_refl _) _
   have B1 := Lh (show Blk w1 nb 25 (NC 8 [] 0 (.slice none 0 0)) by rw [← hw1, ← hnb]; exact Blk.new wc _ _)
   have T1 := Lh (show TS g rb n1 nb 6 t w w1 (.slice A L.length c) L 2 from ⟨M1.out.below lb, R1.out.below lb R1.out.lt, N1.out.below lb N1.out.lt, below_step K1.out lb, HRG.out.1, HRG.out.2, HG1.out, by have := N1.out.lt; omega, B1.out.lt⟩)
   rw [hnb, hw1]
   clear lb hw1 hnb M1 R1 N1 K1
   go_loopg [] (L.length - 2) (fun k wr => ∃ (j : Nat) (A0 : Option Addr) (M0 c0 : Nat) (ml : List Nd) (xs : List Value), Hid (TS g rb n1 nb 6 t w wr (.slice A L.length c) L j) ∧ Hid (Blk wr nb 25 (NC 8 [] 0 (.slice A0 M0 c0))) ∧ Hid (KR wr nb (.slice A0 M0 c0) ml xs) ∧ Hid (M0 = ml.length) ∧ Hid (TP L.length ml j) ∧ Hid (L.length - j = k))
   case atStart => exact ⟨2, none, 0, 0, [], [], T1, B1, Lh (KR.nil _ _), Lh rfl, Lh (tp_start _), Lh rfl⟩
   case round =>
    clear T1 B1
    obtain ⟨j, A0, M0, c0, ml, xs, TR, BR, KRr, HL, HTP, HM⟩ := hrel
    by_cases hj : j < L.length
    ·
     have hjI : (j : Int) < (L.length : Int) := by omega
     have HJ := Lh hj
     have HLb := Lh (show M0 + 1 ≤ 8589934592 by have h1 := HL.out; have h2 := HTP.out.n; have h3 := HL48.out; omega)
     have HC := Lh (fun W (hW : MS g W (.slice A L.length c) L j) => one_any 2 (by omega) hW HJ.out (by have h1 := HL48.out; have h2 := HJ.out; simp only [Ko]; omega))
     clear hj
     go_upto_region 18 with fail
     refine wp_region_held (S := fun W => Blk W g 41 [.slice A L.length c, nv j]) (by kernel_rfl) ?_
     change wpAnyH _ _ _ _ _ _ _ _ (World.drew wr)
     have hs0 : Blk (World.drew wr) g 41 [.slice A L.length c, nv j] := TR.out.m.b
     have T2 := Lh (TR.out.keep (Kp.drew (fun _ => False) wr) (fun _ h => h.elim))
     have B2 := Lh (BR.out.drew)
     have K2 := Lh (KRr.out.kp (Kp.drew (fun _ => False) wr) (fun _ h => h.elim))
     generalize World.drew wr = w2 at T2 B2 K2 hs0 ⊢
     clear TR BR KRr
     refine tgH 0 (pt g) hs0 ?_
     refine tgH 1 (pt g) hs0 ?_
     refine tgH 2 (.pointer (some ⟨g, 1, none⟩)) hs0 ?_
     refine tfH 3 (nv j) hs0 ?_ ?_
     exact fun W hW => by have hcl : W.cell? ⟨g, 1, none⟩ = some (nv j) := (Blk.cell hW 1).trans rfl; go_simp
     refine tgH 4 (pt g) hs0 ?_
     refine tgH 5 (pt g) hs0 ?_
     refine tgH 6 (.pointer (some ⟨g, 0, none⟩)) hs0 ?_
     refine tfH 7 (.slice A L.length c) hs0 ?_ ?_
     exact fun W hW => by have hcl : W.cell? ⟨g, 0, none⟩ = some (.slice A L.length c) := (Blk.cell hW 0).trans rfl; go_simp
     refine tgH 8 (.int .i64 (L.length : Int)) hs0 ?_
     refine tgH 9 (.bool true) hs0 ?_
     refine wpAnyH_done (by kernel_rfl) ?_ _
     try simp only [zp, zn, zu, zv, zw]
     clear hs0
     go_upto_region 19 with fail
     refine wp_region_any (by kernel_rfl) ?_
     change wpAny _ _ _ _ _ _ _ (World.drew w2)
     have Gd := Lh (T2.out.keep (Kp.drew (fun _ => False) w2) (fun _ h => h.elim))
     have Bd := Lh (B2.out.drew)
     have Kd := Lh (K2.out.kp (Kp.drew (fun _ => False) w2) (fun _ h => h.elim))
     generalize World.drew w2 = wdp at Gd Bd Kd ⊢
     refine tg 0 (.pointer (some ⟨nb, 3, none⟩)) ?_
     refine tg 2 (pt g) ?_
     refine rm [1, 3] (ac (fun K hK => ?_) (ac (fun K hK => ?_) AllReady.nil))
     ·
      have e3 := Bd.out.cell 3
      unfold NC at e3
      simp only [g0, gs] at e3
      go_simp
      clear e3
      try (refine hk hK ?_; clear hK K)
      refine r1 3 (fun K hK => ?_)
      go_simp
      refine (HC.out _ Gd.out.m).mono ?_
      rintro e Wp3 ⟨np3, jp3, csp3, rfl, hf, hm, hv, hk, hs⟩
      obtain ⟨kp3, tp3, zp3, lp3⟩ := np3
      obtain ⟨Ap3, cp3, ysp3, hcs, _⟩ := hv.form
      subst hcs
      have Fp3 := Lh hf
      have Gp3 := Lh (Gd.out.call hm hk)
      have Kp3 := Lh (Kd.out.kp hk (fun j e => by obtain ⟨q1, q2, q3, q4⟩ := Gd.out.h; omega))
      have Bp3 := Lh (hk.blk Bd.out (by obtain ⟨q1, q2, q3, q4⟩ := Gd.out.h; omega))
      have Vp3 := Lh (kid_far hv Kd.out hk Gd.out.fit)
      clear hf hm hv hk hs
      dsimp only [NC]
      go_wp2_with fail
      try (refine hk hK ?_; clear hK K)
      refine r1 4 (fun K hK => ?_)
      refine wp_bs (vs := #[(0, .agg #[.int .i64 kp3, .string ⟨tp3.toArray⟩, .int .i64 zp3, .slice Ap3 lp3.length cp3])]) rfl (by simp [Act.eval]) (bs1 _ _ _ _ _ _ _) ?_
      obtain ⟨Wp4, hW⟩ : ∃ W', Wp3.alloc (.cells #[.int .i64 kp3, .string ⟨tp3.toArray⟩, .int .i64 zp3, .slice Ap3 lp3.length cp3] 25) = W' := ⟨_, rfl⟩
      obtain ⟨gzp4, hgz⟩ : ∃ z, Wp3.heap.size = z := ⟨_, rfl⟩
      have hb0 : Below Wp3.heap.size Wp3 Wp4 := by rw [← hW]; exact (Below.refl _ _).alloc (Nat.le_refl _) _
      have Zp4 := Lh (show Blk Wp4 gzp4 25 (NC kp3 tp3 zp3 (.slice Ap3 lp3.length cp3)) by rw [← hW, ← hgz]; exact Blk.new _ _ _)
      have Gp4 := Lh (Gp3.out.keep (Kp.of_below' (Z := fun _ => False) hb0) (fun _ h => h.elim))
      have Bp4 := Lh (Bp3.out.below hb0 Bp3.out.lt)
      have Kp4 := Lh (Kp3.out.kp (Kp.of_below' (Z := fun _ => False) hb0) (fun _ h => h.elim))
      have Vp4 := Lh ((Kp.of_below' (Z := fun _ => False) hb0).nv Vp3.out (fun _ _ _ h => h))
      have Sp4 := Lh (show nb + 2 ≤ Wp4.heap.size by have h1 := Zp4.out.lt; have h2 := Gp3.out.fit; omega)
      rw [hW, hgz]
      clear hW hb0 hgz
      try (refine hk hK ?_; clear hK K)
      refine r1 5 (fun K hK => ?_)
      have HOW : Wp4.ownsRow (nb + 2) 25 4 (.slice A0 M0 c0) M0 xs := by have h := Kp4.out.own; rw [← HL.out] at h; exact h
      obtain ⟨i0, hi0, hz0, hz1, hz2⟩ := info_parts25
      refine wp_append_lies Wp4 (.tmp 73) (.tmp 76) 23 rfl (nb + 2) 25 i0 ZN 4 56 Tryd.underlying23 hi0 hz0 hz1 hz2 rfl (by decide) (.slice A0 M0 c0) M0 xs rfl HOW ⟨gzp4, 0, none⟩ 1 1 (NC kp3 tp3 zp3 (.slice Ap3 lp3.length cp3)) rfl rfl Zp4.out.at (nc_one _ _ _ _ _ _) (by decide) (by have := HLb.out; unfold maxLen; omega) (by have := HLb.out; omega) Sp4.out _ rfl ?_
      intro g2p5 capp5 Wp5 hown hgrow hat hlt
      have Pp5 := Lh (push_t Gp4.out Bp4.out Kp4.out Vp4.out (by rw [← HL.out]; exact HLb.out) (by rw [← HL.out]; exact hown) hgrow hat)
      rw [← HL.out] at Pp5
      have hn3 := Pp5.out.2.2.2.cell 3; have fn3 := Pp5.out.2.2.2.frozen 3
      unfold NC at hn3
      simp only [g0, gs] at hn3
      clear hown hgrow hat hlt HOW hi0 hz0 hz1 hz2
      try (refine hk hK ?_; clear hK K)
      refine tg 6 (.pointer (some ⟨nb, 3, none⟩)) ?_
      refine r1 7 (fun K hK => ?_)
      go_simp
      clear hn3 fn3
      obtain ⟨wq, hwq⟩ : ∃ W', Wp5.setCell ⟨nb, 3, none⟩ (.slice (some ⟨g2p5, 0, none⟩) (M0 + 1) capp5) = W' := ⟨_, rfl⟩
      rw [hwq] at Pp5 ⊢
      have HP := Lh (And.intro Pp5.out.1 (And.intro Pp5.out.2.1 Pp5.out.2.2.1))
      have HF := Fp3
      clear hwq Pp5
      try (refine hk hK ?_; clear hK K)
      refine wpAny_done (by kernel_rfl) ?_ _
      try simp only [zp, zn, zu, zv, zw]
      go_wp2_with fail
      go_roundg (L.length - jp3)
      case measure => have h1 := HF.out.lo; have h2 := HJ.out; have h3 := HM.out; omega
      case rel => exact ⟨jp3, some ⟨g2p5, 0, none⟩, M0 + 1, capp5, ml ++ [.mk kp3 tp3 zp3 lp3], _, Lh HP.out.1, Lh HP.out.2.1, Lh HP.out.2.2, Lh (by rw [HL.out]; simp), Lh (tp_step HTP.out HJ.out HF.out), Lh rfl⟩
     ·
      go_simp
      refine (HC.out _ Gd.out.m).mono ?_
      rintro e Wp7 ⟨np7, jp7, csp7, rfl, hf, hm, hv, hk, hs⟩
      obtain ⟨kp7, tp7, zp7, lp7⟩ := np7
      obtain ⟨Ap7, cp7, ysp7, hcs, _⟩ := hv.form
      subst hcs
      have Fp7 := Lh hf
      have Gp7 := Lh (Gd.out.call hm hk)
      have Kp7 := Lh (Kd.out.kp hk (fun j e => by obtain ⟨q1, q2, q3, q4⟩ := Gd.out.h; omega))
      have Bp7 := Lh (hk.blk Bd.out (by obtain ⟨q1, q2, q3, q4⟩ := Gd.out.h; omega))
      have Vp7 := Lh (kid_far hv Kd.out hk Gd.out.fit)
      clear hf hm hv hk hs
      dsimp only [NC]
      go_wp2_with fail
      try (refine hk hK ?_; clear hK K)
      refine rm [1, 4] (ac (fun K hK => ?_) (ac (fun K hK => ?_) AllReady.nil))
      ·
       have e3 := Bp7.out.cell 3
       unfold NC at e3
       simp only [g0, gs] at e3
       go_simp
       clear e3
       try (refine hk hK ?_; clear hK K)
       refine r1 4 (fun K hK => ?_)
       refine wp_bs (vs := #[(0, .agg #[.int .i64 kp7, .string ⟨tp7.toArray⟩, .int .i64 zp7, .slice Ap7 lp7.length cp7])]) rfl (by simp [Act.eval]) (bs1 _ _ _ _ _ _ _) ?_
       obtain ⟨Wp8, hW⟩ : ∃ W', Wp7.alloc (.cells #[.int .i64 kp7, .string ⟨tp7.toArray⟩, .int .i64 zp7, .slice Ap7 lp7.length cp7] 25) = W' := ⟨_, rfl⟩
       obtain ⟨gzp8, hgz⟩ : ∃ z, Wp7.heap.size = z := ⟨_, rfl⟩
       have hb0 : Below Wp7.heap.size Wp7 Wp8 := by rw [← hW]; exact (Below.refl _ _).alloc (Nat.le_refl _) _
       have Zp8 := Lh (show Blk Wp8 gzp8 25 (NC kp7 tp7 zp7 (.slice Ap7 lp7.length cp7)) by rw [← hW, ← hgz]; exact Blk.new _ _ _)
       have Gp8 := Lh (Gp7.out.keep (Kp.of_below' (Z := fun _ => False) hb0) (fun _ h => h.elim))
       have Bp8 := Lh (Bp7.out.below hb0 Bp7.out.lt)
       have Kp8 := Lh (Kp7.out.kp (Kp.of_below' (Z := fun _ => False) hb0) (fun _ h => h.elim))
       have Vp8 := Lh ((Kp.of_below' (Z := fun _ => False) hb0).nv Vp7.out (fun _ _ _ h => h))
       have Sp8 := Lh (show nb + 2 ≤ Wp8.heap.size by have h1 := Zp8.out.lt; have h2 := Gp7.out.fit; omega)
       rw [hW, hgz]
       clear hW hb0 hgz
       try (refine hk hK ?_; clear hK K)
       refine r1 5 (fun K hK => ?_)
       have HOW : Wp8.ownsRow (nb + 2) 25 4 (.slice A0 M0 c0) M0 xs := by have h := Kp8.out.own; rw [← HL.out] at h; exact h
       obtain ⟨i0, hi0, hz0, hz1, hz2⟩ := info_parts25
       refine wp_append_lies Wp8 (.tmp 73) (.tmp 76) 23 rfl (nb + 2) 25 i0 ZN 4 56 Tryd.underlying23 hi0 hz0 hz1 hz2 rfl (by decide) (.slice A0 M0 c0) M0 xs rfl HOW ⟨gzp8, 0, none⟩ 1 1 (NC kp7 tp7 zp7 (.slice Ap7 lp7.length cp7)) rfl rfl Zp8.out.at (nc_one _ _ _ _ _ _) (by decide) (by have := HLb.out; unfold maxLen; omega) (by have := HLb.out; omega) Sp8.out _ rfl ?_
       intro g2p9 capp9 Wp9 hown hgrow hat hlt
       have Pp9 := Lh (push_t Gp8.out Bp8.out Kp8.out Vp8.out (by rw [← HL.out]; exact HLb.out) (by rw [← HL.out]; exact hown) hgrow hat)
       rw [← HL.out] at Pp9
       have hn3 := Pp9.out.2.2.2.cell 3; have fn3 := Pp9.out.2.2.2.frozen 3
       unfold NC at hn3
       simp only [g0, gs] at hn3
       clear hown hgrow hat hlt HOW hi0 hz0 hz1 hz2
       try (refine hk hK ?_; clear hK K)
       refine tg 6 (.pointer (some ⟨nb, 3, none⟩)) ?_
       refine r1 7 (fun K hK => ?_)
       go_simp
       clear hn3 fn3
       obtain ⟨wq, hwq⟩ : ∃ W', Wp9.setCell ⟨nb, 3, none⟩ (.slice (some ⟨g2p9, 0, none⟩) (M0 + 1) capp9) = W' := ⟨_, rfl⟩
       rw [hwq] at Pp9 ⊢
       have HP := Lh (And.intro Pp9.out.1 (And.intro Pp9.out.2.1 Pp9.out.2.2.1))
       have HF := Fp7
       clear hwq Pp9
       try (refine hk hK ?_; clear hK K)
       refine wpAny_done (by kernel_rfl) ?_ _
       try simp only [zp, zn, zu, zv, zw]
       go_wp2_with fail
       go_roundg (L.length - jp7)
       case measure => have h1 := HF.out.lo; have h2 := HJ.out; have h3 := HM.out; omega
       case rel => exact ⟨jp7, some ⟨g2p9, 0, none⟩, M0 + 1, capp9, ml ++ [.mk kp7 tp7 zp7 lp7], _, Lh HP.out.1, Lh HP.out.2.1, Lh HP.out.2.2, Lh (by rw [HL.out]; simp), Lh (tp_step HTP.out HJ.out HF.out), Lh rfl⟩
      ·
       refine wp_bs (vs := #[(0, .agg #[.int .i64 kp7, .string ⟨tp7.toArray⟩, .int .i64 zp7, .slice Ap7 lp7.length cp7])]) rfl (by simp [Act.eval]) (bs1 _ _ _ _ _ _ _) ?_
       obtain ⟨Wp11, hW⟩ : ∃ W', Wp7.alloc (.cells #[.int .i64 kp7, .string ⟨tp7.toArray⟩, .int .i64 zp7, .slice Ap7 lp7.length cp7] 25) = W' := ⟨_, rfl⟩
       obtain ⟨gzp11, hgz⟩ : ∃ z, Wp7.heap.size = z := ⟨_, rfl⟩
       have hb0 : Below Wp7.heap.size Wp7 Wp11 := by rw [← hW]; exact (Below.refl _ _).alloc (Nat.le_refl _) _
       have Zp11 := Lh (show Blk Wp11 gzp11 25 (NC kp7 tp7 zp7 (.slice Ap7 lp7.length cp7)) by rw [← hW, ← hgz]; exact Blk.new _ _ _)
       have Gp11 := Lh (Gp7.out.keep (Kp.of_below' (Z := fun _ => False) hb0) (fun _ h => h.elim))
       have Bp11 := Lh (Bp7.out.below hb0 Bp7.out.lt)
       have Kp11 := Lh (Kp7.out.kp (Kp.of_below' (Z := fun _ => False) hb0) (fun _ h => h.elim))
       have Vp11 := Lh ((Kp.of_below' (Z := fun _ => False) hb0).nv Vp7.out (fun _ _ _ h => h))
       have Sp11 := Lh (show nb + 2 ≤ Wp11.heap.size by have h1 := Zp11.out.lt; have h2 := Gp7.out.fit; omega)
       rw [hW, hgz]
       clear hW hb0 hgz
       try (refine hk hK ?_; clear hK K)
       refine r1 1 (fun K hK => ?_)
       have e3 := Bp11.out.cell 3
       unfold NC at e3
       simp only [g0, gs] at e3
       go_simp
       clear e3
       try (refine hk hK ?_; clear hK K)
       refine r1 5 (fun K hK => ?_)
       have HOW : Wp11.ownsRow (nb + 2) 25 4 (.slice A0 M0 c0) M0 xs := by have h := Kp11.out.own; rw [← HL.out] at h; exact h
       obtain ⟨i0, hi0, hz0, hz1, hz2⟩ := info_parts25
       refine wp_append_lies Wp11 (.tmp 73) (.tmp 76) 23 rfl (nb + 2) 25 i0 ZN 4 56 Tryd.underlying23 hi0 hz0 hz1 hz2 rfl (by decide) (.slice A0 M0 c0) M0 xs rfl HOW ⟨gzp11, 0, none⟩ 1 1 (NC kp7 tp7 zp7 (.slice Ap7 lp7.length cp7)) rfl rfl Zp11.out.at (nc_one _ _ _ _ _ _) (by decide) (by have := HLb.out; unfold maxLen; omega) (by have := HLb.out; omega) Sp11.out _ rfl ?_
       intro g2p12 capp12 Wp12 hown hgrow hat hlt
       have Pp12 := Lh (push_t Gp11.out Bp11.out Kp11.out Vp11.out (by rw [← HL.out]; exact HLb.out) (by rw [← HL.out]; exact hown) hgrow hat)
       rw [← HL.out] at Pp12
       have hn3 := Pp12.out.2.2.2.cell 3; have fn3 := Pp12.out.2.2.2.frozen 3
       unfold NC at hn3
       simp only [g0, gs] at hn3
       clear hown hgrow hat hlt HOW hi0 hz0 hz1 hz2
       try (refine hk hK ?_; clear hK K)
       refine tg 6 (.pointer (some ⟨nb, 3, none⟩)) ?_
       refine r1 7 (fun K hK => ?_)
       go_simp
       clear hn3 fn3
       obtain ⟨wq, hwq⟩ : ∃ W', Wp12.setCell ⟨nb, 3, none⟩ (.slice (some ⟨g2p12, 0, none⟩) (M0 + 1) capp12) = W' := ⟨_, rfl⟩
       rw [hwq] at Pp12 ⊢
       have HP := Lh (And.intro Pp12.out.1 (And.intro Pp12.out.2.1 Pp12.out.2.2.1))
       have HF := Fp7
       clear hwq Pp12
       try (refine hk hK ?_; clear hK K)
       refine wpAny_done (by kernel_rfl) ?_ _
       try simp only [zp, zn, zu, zv, zw]
       go_wp2_with fail
       go_roundg (L.length - jp7)
       case measure => have h1 := HF.out.lo; have h2 := HJ.out; have h3 := HM.out; omega
       case rel => exact ⟨jp7, some ⟨g2p12, 0, none⟩, M0 + 1, capp12, ml ++ [.mk kp7 tp7 zp7 lp7], _, Lh HP.out.1, Lh HP.out.2.1, Lh HP.out.2.2, Lh (by rw [HL.out]; simp), Lh (tp_step HTP.out HJ.out HF.out), Lh rfl⟩
    ·
     have hjI : ¬ (j : Int) < (L.length : Int) := by omega
     clear hj
     go_upto_region 18 with fail
     refine wp_region_held (S := fun W => Blk W g 41 [.slice A L.length c, nv j]) (by kernel_rfl) ?_
     change wpAnyH _ _ _ _ _ _ _ _ (World.drew wr)
     have hs0 : Blk (World.drew wr) g 41 [.slice A L.length c, nv j] := TR.out.m.b
     have T2 := Lh (TR.out.keep (Kp.drew (fun _ => False) wr) (fun _ h => h.elim))
     have B2 := Lh (BR.out.drew)
     have K2 := Lh (KRr.out.kp (Kp.drew (fun _ => False) wr) (fun _ h => h.elim))
     generalize World.drew wr = w2 at T2 B2 K2 hs0 ⊢
     clear TR BR KRr
     refine tgH 0 (pt g) hs0 ?_
     refine tgH 1 (pt g) hs0 ?_
     refine tgH 2 (.pointer (some ⟨g, 1, none⟩)) hs0 ?_
     refine tfH 3 (nv j) hs0 ?_ ?_
     exact fun W hW => by have hcl : W.cell? ⟨g, 1, none⟩ = some (nv j) := (Blk.cell hW 1).trans rfl; go_simp
     refine tgH 4 (pt g) hs0 ?_
     refine tgH 5 (pt g) hs0 ?_
     refine tgH 6 (.pointer (some ⟨g, 0, none⟩)) hs0 ?_
     refine tfH 7 (.slice A L.length c) hs0 ?_ ?_
     exact fun W hW => by have hcl : W.cell? ⟨g, 0, none⟩ = some (.slice A L.length c) := (Blk.cell hW 0).trans rfl; go_simp
     refine tgH 8 (.int .i64 (L.length : Int)) hs0 ?_
     refine tgH 9 (.bool false) hs0 ?_
     refine wpAnyH_done (by kernel_rfl) ?_ _
     try simp only [zp, zn, zu, zv, zw]
     clear hs0
     have HS := Lh T2.out.h
     have B3 : Hid (Blk w2 nb 25 [.int .i64 8, .string ⟨#[]⟩, .int .i64 0, .slice A0 M0 c0]) := B2
     have HVb := Lh (NV.under (K2.out.nv (k := 8) (t := []) (z := 0) (fine_small (by omega) (by omega) (by omega) (by omega) (by simp))))
     go_upto_region 21 with (first
      | (with_reducible refine wpList_load_cells rfl 25 4 size25 (.tmp 8) rfl ⟨nb, 0, none⟩ rfl [.int .i64 8, .string ⟨#[]⟩, .int .i64 0, .slice A0 M0 c0] rfl _ Tryd.underlying25 rfl B3.out.at ?_)
      | (with_reducible refine wpList_bs1 rfl rfl rfl ?_; intro gz Wb hgq hX hB; have hgz := Lh hgq; clear hgq; have bq := (Blk.below T2.out.n hB T2.out.n.lt).cell 3; have fq := (Blk.below T2.out.n hB T2.out.n.lt).frozen 3; unfold NC at bq; simp only [g0, gs] at bq))
     have T3 := Lh (T2.out.keep (Kp.of_below' (Z := fun _ => False) hB) (fun _ h => h.elim))
     have X3 := Lh hX
     have V3 := Lh (NV.keep (P' := fun k => g < k ∧ k ≠ n1) (fun k h1 h2 => ⟨hB.block k h2, by have := HS.out; omega⟩) _ _ HVb.out)
     have HGz := Lh (show n1 < gz by have := HS.out; have := hgz.out; omega)
     clear hX hB T2 HVb B2 B3 K2
     obtain ⟨W9, hW9⟩ : ∃ W', Wb.setCell ⟨n1, 3, none⟩ (.slice (some ⟨gz, 0, none⟩) 1 1) = W' := ⟨_, rfl⟩
     have k9 := Kp.setCell (Z := fun k => k = n1) Wb ⟨n1, 3, none⟩ (.slice (some ⟨gz, 0, none⟩) 1 1) rfl
     have N9 := Lh (show Blk (Wb.setCell ⟨n1, 3, none⟩ (.slice (some ⟨gz, 0, none⟩) 1 1)) n1 25 [iv 6, sv t, .int .i64 0, .slice (some ⟨gz, 0, none⟩) 1 1] from T3.out.n.put 3 _)
     have R9 := Lh (k9.blk T3.out.z (by have := HS.out; omega))
     have X9 := Lh (k9.blk X3.out (by have := HGz.out; omega))
     have V9 := Lh (NV.keep (P' := fun k => g < k) (fun k h1 h2 => ⟨k9.block k h2 h1.2, h1.1⟩) _ _ V3.out)
     have K9 := Lh (T3.out.k.trans (k9.below T3.out.k.size (fun k hk e => by have := HS.out; omega)))
     rw [hW9] at N9 R9 X9 V9 K9 ⊢
     clear k9 hW9 T3 X3 bq fq
     have NN3 : Hid (Blk W9 n1 25 [.int .i64 6, sv t, .int .i64 0, .slice (some ⟨gz, 0, none⟩) 1 1]) := N9
     have ZZ3 : Hid (Blk W9 rb 25 [.int .i64 0, .string ⟨#[]⟩, .int .i64 0, .slice none 0 0]) := R9
     have HV := Lh (show NV W9 (fun k => g < k) (.mk 6 t 0 [.mk 8 [] 0 ml]) (NC 6 t 0 (.slice (some ⟨gz, 0, none⟩) 1 1)) from nv_built (l := [_]) X9.out (by have h1 := HS.out; have h2 := HGz.out; omega) (NL.one V9.out) (fine_small (by omega) (by omega) (by omega) (by omega) (by omega)) (by simp))
     go_wp2_with (first
      | (with_reducible refine wpList_load_cells rfl 25 4 size25 (.tmp 4) rfl ⟨n1, 0, none⟩ rfl [.int .i64 6, sv t, .int .i64 0, .slice (some ⟨gz, 0, none⟩) 1 1] rfl _ Tryd.underlying25 rfl NN3.out.at ?_)
      | (with_reducible refine wpList_store_blk rfl 25 4 size25 (.tmp 2) (.tmp 82) rfl rb [.int .i64 6, sv t, .int .i64 0, .slice (some ⟨gz, 0, none⟩) 1 1] rfl rfl _ ZZ3.out rfl rfl rfl ?_; intro w8 hb8 hk8))
     refine bodyPost_ret (v := .agg (NC 6 t 0 (.slice (some ⟨gz, 0, none⟩) 1 1)).toArray) (box_res 4 size25 rfl _ _ rb (NC 6 t 0 (.slice (some ⟨gz, 0, none⟩) 1 1)) _ rfl hb8 rfl Tryd.underlying25 rfl) rfl ⟨.mk 6 t 0 [.mk 8 [] 0 ml], _, rfl, ?_, NV.keep (fun k h1 h2 => ⟨hk8.block k h2 (fun e => by have := HRG.out; omega), by have := HRG.out; omega⟩) _ _ HV.out, K9.out.trans (hk8.below K9.out.size (fun k hk e => by have := HRG.out; omega))⟩
     exact ⟨by rw [← HR.out]; exact HKd.out, HT.out, fun _ => ⟨ml, j, rfl, HTP.out⟩, fun h => absurd h (by dsimp only [Nd.kind]; decide), fun h => absurd h (by dsimp only [Nd.kind]; decide), fun h => absurd h (by dsimp only [Nd.kind]; decide), fun h => absurd h (by dsimp only [Nd.kind]; decide)⟩
end
end Go.Proofs.YtpbhgebblpdmnaaDoor
