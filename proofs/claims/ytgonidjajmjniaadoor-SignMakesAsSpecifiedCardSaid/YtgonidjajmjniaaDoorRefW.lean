/-
  The contracts of the reference's fits, Public and Sign.
  Conditions: the seed has at most 2^20 bytes, the message at most 2^20; the reference's table of the round constants is as the text lays it.
-/
import Derived.Test.YtgonidjajmjniaaDoorRefZ
namespace Go.Proofs.YtgonidjajmjniaaDoor
open Go.RowKit Wr Sh
set_option linter.unusedVariables false
set_option maxRecDepth 100000

theorem rfits_ok (sd : ByteArray) (h : Nat) (w : World) (h32 : sd.size = 32) (hh : h ≤ 6) : Calls Tryd.prog 25 #[.string sd, .int .i64 (h : Int)] w fun e w' => e = .returned (.bool true) ∧ w = w' := by
  have h1 : ((sd.size : Int) == 32) = true := by rw [beq_iff_eq]; omega
  have h6 : decide ((h : Int) ≤ 6) = true := by rw [decide_eq_true_eq]; omega
  clear h32 hh
  go_enter Tryd.func25, Tryd.ntmps25
  go_wp2_with fail
  go_ret
  exact ⟨by first | rfl | (rw [h6]), rfl⟩
theorem rfits_bad (sd : ByteArray) (n : Int) (w : World) (h : (sd.size == 32) = false ∨ (sd.size == 32) = true ∧ decide (0 ≤ n ∧ n ≤ 6) = false) : Calls Tryd.prog 25 #[.string sd, .int .i64 n] w fun e w' => e = .returned (.bool false) ∧ w = w' := by
  rcases h with h | ⟨h, h2⟩
  · have h1 : ((sd.size : Int) == 32) = false := by rw [beq_eq_false_iff_ne] at h ⊢; omega
    clear h
    go_enter Tryd.func25, Tryd.ntmps25
    go_wp2_with fail
    go_ret
    exact ⟨rfl, rfl⟩
  · have h1 : ((sd.size : Int) == 32) = true := by rw [beq_iff_eq] at h ⊢; omega
    rw [decide_eq_false_iff_not] at h2
    by_cases h0 : 0 ≤ n
    · have h3 : decide (n ≤ 6) = false := by rw [decide_eq_false_iff_not]; omega
      clear h h2
      go_enter Tryd.func25, Tryd.ntmps25
      go_wp2_with fail
      go_ret
      exact ⟨rfl, rfl⟩
    · have h3 : decide (0 ≤ n) = false := by rw [decide_eq_false_iff_not]; omega
      clear h h2
      go_enter Tryd.func25, Tryd.ntmps25
      go_wp2_with fail
      go_ret
      exact ⟨rfl, rfl⟩
/-- What can be read of the levels. -/
theorem lev_at {W : World} {base h : Nat} {s : List UInt8} {v : Value} {vs : List Value} (ho : W.ownsRow base 47 1 v (h + 1) vs) (hl : LevOK W base s h (h + 1) vs) :
    ∃ gO cO, v = .slice (some ⟨gO, 0, none⟩) (h + 1) cO ∧ gO < W.heap.size ∧ ∀ j, j ≤ h → ∃ gL cL, gL < W.heap.size ∧ W.cell? ⟨gO, j, none⟩ = some (.slice (some ⟨gL, 0, none⟩) (2 ^ (h - j)) cL) ∧
      ∀ k, k < 2 ^ (h - j) → ∀ i u, (B8 (node s j k))[i]? = some u → W.cell? ((⟨gL, k * 16, none⟩ : Addr).add i) = some u := by
  have ho2 := ho
  rcases ho.2 with ⟨_, h0⟩ | ⟨gO, cO, cur, rfl, _, _, _, _, _, _⟩
  · omega
  refine ⟨gO, cO, rfl, (ho2.lt gO rfl).2, fun j hj => ?_⟩
  obtain ⟨vL, hvL, _, hoL⟩ := hl.2 j (by omega)
  obtain ⟨gL, cL, rfl, _, _, hgL, hdig⟩ := own_digs hoL (Nat.two_pow_pos _)
  refine ⟨gL, cL, hgL, ?_, fun k hk i u hu => ?_⟩
  · have := ho2.cells (g := gO) rfl j _ hvL
    rw [Addr.add_lit, Nat.zero_add] at this
    exact this
  · have := hdig k hk i u
    rw [lev_dig _ _ _ _ hk] at this
    exact this hu

set_option maxHeartbeats 2000000 in
theorem rpublic_bad (sd : ByteArray) (n : Int) (w : World) (h : (sd.size == 32) = false ∨ (sd.size == 32) = true ∧ decide (0 ≤ n ∧ n ≤ 6) = false) :
    Calls Tryd.prog 13 #[.string sd, .int .i64 n] w fun e w' => e = .returned (.tuple #[.agg Z16.toArray, .int .i64 1]) ∧ Below w.heap.size w w' := by
  have hZ := hZ16
  have HK := Lib.hid (show (w.alloc (.cells Z16.toArray 23)).heap[w.heap.size]? = some (.cells Z16.toArray 23 (0, 0)) from Blk.new w 23 Z16)
  have B1 := Lib.hid ((Below.refl w.heap.size w).alloc (Nat.le_refl _) (.cells Z16.toArray 23))
  have HS := Lib.hid Z16_sz
  have HO := Lib.hid Z16_one
  have HB := Lib.hid h
  clear h
  go_enter Tryd.func13, Tryd.ntmps13
  go_wp2_with (first
    | (go_at_call 25; refine (rfits_bad sd n _ HB.out).mono ?_; rintro e w' ⟨rfl, rfl⟩)
    | (with_reducible refine wpList_store_row rfl 23 (.tmp 4) (.tmp 12) rfl w.heap.size Z16.toArray rfl rfl 23 _ HK.out HS.out rfl HO.out ?_))
  refine bodyPost_ret (v := .tuple #[.agg Z16.toArray, .int .i64 1]) ?_ rfl ⟨rfl, belowRow B1.out (Nat.le_refl _) _⟩
  have hr := run_loadVar_row (P := Tryd.prog) _ w.heap.size 23 23 Z16.toArray (0, 0) (.array 16 5) (heap_setRow _ w.heap.size Z16.toArray _ 23 HK.out) Tryd.underlying23 rfl HS.out
  simp [results, Tryd.results13, asAddr, hr]
set_option maxHeartbeats 2000000 in
theorem rpublic_ok (sd : ByteArray) (h : Nat) (w : World) (h32 : sd.size = 32) (hh : h ≤ 6) (ht : Tab 0 w) (R : List UInt8) (hR : R = node sd.data.toList h 0) :
    Calls Tryd.prog 13 #[.string sd, .int .i64 (h : Int)] w fun e w' => e = .returned (.tuple #[.agg (B8 R).toArray, .int .i64 0]) ∧ Below w.heap.size w w' := by
  have hZ := hZ16
  have HK := Lib.hid (Blk.new w 23 Z16)
  have B1 := Lib.hid ((Below.refl w.heap.size w).alloc (Nat.le_refl _) (.cells Z16.toArray 23))
  have HRl := Lib.hid (show R.length = 16 by rw [hR]; exact node_len _ _ _)
  have HR := Lib.hid hR
  have HT := Lib.hid ht
  have H32 := Lib.hid h32
  clear h32 hR ht
  go_enter Tryd.func13, Tryd.ntmps13
  go_wp2_with (go_at_call 25; refine (rfits_ok sd h _ H32.out hh).mono ?_; rintro e w' ⟨rfl, rfl⟩)
  refine (levels_any sd h _ (by have := H32.out; omega) hh (HT.out.below B1.out HT.out.1)).mono ?_; rintro e w2 ⟨v, vs, rfl, ho, hlv, hb2⟩
  have B2 := Lib.hid (B1.out.trans (hb2.mono B1.out.size))
  have K2 := Lib.hid (show w2.heap[w.heap.size]? = some (.cells Z16.toArray 23 (0, 0)) from HK.out.below hb2 HK.out.lt)
  obtain ⟨gO, cO, rfl, hgO, hat⟩ := lev_at ho hlv
  obtain ⟨gL, cL, hgL, hcell, hdig⟩ := hat h (Nat.le_refl _)
  rw [Nat.sub_self, Nat.pow_zero] at hcell hdig
  have HLD := Lib.hid (show ∀ i u, (B8 R)[i]? = some u → w2.cell? ((⟨gL, 0, none⟩ : Addr).add i) = some u from fun i u hu => by
    have := hdig 0 (by omega) i u (by rw [← HR.out]; exact hu)
    rw [Nat.zero_mul] at this
    exact this)
  have hlt1 : (h : Int) < (h : Int) + 1 := by omega
  clear hb2 hdig hat ho hlv
  go_wp2_with (first
    | (with_reducible refine wpList_load_at rfl 23 (.tmp 19) rfl ⟨gL, 0, none⟩ rfl (B8 R) (.array 16 5) HLD.out Tryd.underlying23 rfl (size23 _ HRl.out) ?_)
    | (with_reducible refine wpList_store_row rfl 23 (.tmp 4) (.tmp 20) rfl w.heap.size (B8 R).toArray rfl rfl 23 _ K2.out (size23' _ HRl.out) (Z16_size _ HRl.out) (one8 _) ?_))
  refine bodyPost_ret (v := .tuple #[.agg (B8 R).toArray, .int .i64 0]) ?_ rfl ⟨rfl, belowRow B2.out (Nat.le_refl _) _⟩
  have hr := run_loadVar_row (P := Tryd.prog) _ w.heap.size 23 23 (B8 R).toArray (0, 0) (.array 16 5) (heap_setRow w2 w.heap.size (B8 R).toArray _ 23 K2.out) Tryd.underlying23 rfl (size23' _ HRl.out)
  simp [results, Tryd.results13, asAddr, hr]

set_option maxHeartbeats 2000000 in
theorem rsign_bad (sd : ByteArray) (n ix : Int) (m : ByteArray) (w : World) (h : (sd.size == 32) = false ∨ (sd.size == 32) = true ∧ decide (0 ≤ n ∧ n ≤ 6) = false) :
    Calls Tryd.prog 15 #[.string sd, .int .i64 n, .int .i64 ix, .string m] w fun e w' => e = .returned (.tuple #[.string ⟨#[]⟩, .int .i64 1]) ∧ w = w' := by
  have HB := Lib.hid h
  clear h
  go_enter Tryd.func15, Tryd.ntmps15
  go_wp2_with (go_at_call 25; refine (rfits_bad sd n _ HB.out).mono ?_; rintro e w' ⟨rfl, rfl⟩)
  go_ret2
  exact ⟨rfl, rfl⟩
set_option maxHeartbeats 2000000 in
theorem rsign_spent (sd : ByteArray) (h : Nat) (ix : Int) (m : ByteArray) (w : World) (h32 : sd.size = 32) (hh : h ≤ 6) (hix : ix < 0 ∨ ¬ ix < 0 ∧ ((2 ^ h : Nat) : Int) ≤ ix) :
    Calls Tryd.prog 15 #[.string sd, .int .i64 (h : Int), .int .i64 ix, .string m] w fun e w' => e = .returned (.tuple #[.string ⟨#[]⟩, .int .i64 20]) ∧ w = w' := by
  obtain ⟨PW, hPW⟩ : ∃ PW : Nat, PW = 2 ^ h := ⟨_, rfl⟩
  have hsh0 : ((2 : Int) ^ h) = (PW : Int) := by rw [hPW]; simp
  have hpw64 : PW ≤ 64 := by rw [hPW]; exact Nat.le_trans (Nat.pow_le_pow_right (by decide) hh) (by decide)
  have hsh : IntKind.i64.wrap ((2 : Int) ^ h) = (PW : Int) := by rw [hsh0]; exact IntWalk.i64_in _ (by omega)
  have hsh2 : IntKind.i64.wrap (1 * (2 : Int) ^ h) = (PW : Int) := by rw [Int.one_mul]; exact hsh
  rw [← hPW] at hix
  have H32 := Lib.hid h32
  clear h32 hsh0 hPW
  rcases hix with h1 | ⟨h1, h2⟩
  · go_enter Tryd.func15, Tryd.ntmps15
    go_wp2_with (go_at_call 25; refine (rfits_ok sd h _ H32.out hh).mono ?_; rintro e w' ⟨rfl, rfl⟩)
    go_ret2
    exact ⟨rfl, rfl⟩
  · have h2' : ¬ ix < (PW : Int) := by omega
    go_enter Tryd.func15, Tryd.ntmps15
    go_wp2_with (go_at_call 25; refine (rfits_ok sd h _ H32.out hh).mono ?_; rintro e w' ⟨rfl, rfl⟩)
    go_ret2
    exact ⟨rfl, rfl⟩

theorem sib_half {n P : Nat} (h : n < 2 * P) : sib n < 2 * P := by unfold sib; split <;> omega

set_option maxHeartbeats 4000000 in
theorem rsign_ok (sd : ByteArray) (h ix : Nat) (m : ByteArray) (w : World) (h32 : sd.size = 32) (hh : h ≤ 6) (hix : ix < 2 ^ h) (hm : m.size ≤ 1048576) (ht : Tab 0 w) (R : List UInt8) (hR : Hid (R = sigOf sd.data.toList h ix m)) :
    Calls Tryd.prog 15 #[.string sd, .int .i64 (h : Int), .int .i64 (ix : Int), .string m] w fun e w' => e = .returned (.tuple #[.string (bs R), .int .i64 0]) ∧ Below w.heap.size w w' := by
  obtain ⟨PW, hPW⟩ : ∃ PW : Nat, PW = 2 ^ h := ⟨_, rfl⟩
  have hsh0 : ((2 : Int) ^ h) = (PW : Int) := by rw [hPW]; simp
  have hpw64 : PW ≤ 64 := by rw [hPW]; exact Nat.le_trans (Nat.pow_le_pow_right (by decide) hh) (by decide)
  have hsh : IntKind.i64.wrap ((2 : Int) ^ h) = (PW : Int) := by rw [hsh0]; exact IntWalk.i64_in _ (by omega)
  have hsh2 : IntKind.i64.wrap (1 * (2 : Int) ^ h) = (PW : Int) := by rw [Int.one_mul]; exact hsh
  have HIX := Lib.hid hix
  rw [← hPW] at hix
  have hix6 : ix < 64 := by omega
  have hg1 : ¬ (ix : Int) < 0 := by omega
  have hg2 : ¬ (PW : Int) ≤ (ix : Int) := by omega
  have hmI : ¬ (1048576 : Int) < (m.size : Int) := by omega
  have H32 := Lib.hid h32
  have HT := Lib.hid ht
  have HOI := Lib.hid (show okInt (ix : Int) from ⟨by omega, by omega⟩)
  obtain ⟨P, hP⟩ : ∃ P, P = node sd.data.toList h 0 := ⟨_, rfl⟩
  obtain ⟨E, hE⟩ : ∃ E, E = enc (ix : Int) := ⟨_, rfl⟩
  obtain ⟨M, hM⟩ : ∃ M, M = E.length := ⟨_, rfl⟩
  have hM0 : 0 < M := by rw [hM, hE]; exact (enc_le _).1
  have hM1 : M ≤ 9 := by rw [hM, hE]; exact (enc_le _).2
  obtain ⟨Dg, hDg⟩ : ∃ Dg, Dg = digOf P (ix : Int) m := ⟨_, rfl⟩
  have HP := Lib.hid hP
  have HPl := Lib.hid (show P.length = 16 by rw [hP]; exact node_len _ _ _)
  have HE := Lib.hid hE
  have HM := Lib.hid hM
  have HDg := Lib.hid hDg
  have HDgl := Lib.hid (show Dg.length = 16 by rw [hDg]; exact dof_len _ _)
  clear h32 ht hP hE hM hDg hsh0 hPW
  go_enter Tryd.func15, Tryd.ntmps15
  go_wp2_with (go_at_call 25; refine (rfits_ok sd h _ H32.out hh).mono ?_; rintro e w' ⟨rfl, rfl⟩)
  refine (levels_any sd h _ (by have := H32.out; omega) hh HT.out).mono ?_; rintro e w2 ⟨v, vs, rfl, ho, hlv, hb2⟩
  have B2 := Lib.hid hb2
  obtain ⟨gO, cO, rfl, hgO, hat⟩ := lev_at ho hlv
  have HAT := Lib.hid hat
  have HGO := Lib.hid hgO
  obtain ⟨gL, cL, hgL, hcell, hdig⟩ := hat h (Nat.le_refl _)
  rw [Nat.sub_self, Nat.pow_zero] at hcell hdig
  have HLD := Lib.hid (show ∀ i u, (B8 P)[i]? = some u → w2.cell? ((⟨gL, 0, none⟩ : Addr).add i) = some u from fun i u hu => by
    have := hdig 0 (by omega) i u (by rw [← HP.out]; exact hu)
    rw [Nat.zero_mul] at this
    exact this)
  have hlt1 : (h : Int) < (h : Int) + 1 := by omega
  clear hb2 hdig hat ho hlv hgO
  go_wp2_with (with_reducible refine wpList_load_at rfl 23 (.tmp 41) rfl ⟨gL, 0, none⟩ rfl (B8 P) (.array 16 5) HLD.out Tryd.underlying23 rfl (size23 _ HPl.out) ?_)
  refine (rdigest3_any P (ix : Int) m w2 HPl.out HOI.out (by omega) (HT.out.below B2.out HT.out.1) Dg HDg).mono ?_; rintro e w3 ⟨rfl, hb3⟩
  have B3 := Lib.hid (B2.out.trans (hb3.mono B2.out.size))
  have C3 := Lib.hid hb3
  clear hb3 hcell
  go_wp2_with fail
  refine (rdigits_any Dg w3 HDgl.out).mono ?_; rintro e w4 ⟨vD, rfl, hoD, hb4⟩
  have B4 := Lib.hid (B3.out.trans (hb4.mono B3.out.size))
  have C4 := Lib.hid (C3.out.trans (hb4.mono C3.out.size))
  obtain ⟨AD, cD, rfl, hcD, _, hrD⟩ := own_form hoD
  clear hb4 hoD
  go_wp2_with fail
  refine (rint_s (ix : Int) w4 HOI.out E HE M HM).mono ?_; rintro e w5 ⟨A5, c5, rfl, hr5, hb5⟩
  have BL := Lib.hid (B4.out.trans (hb5.mono B4.out.size))
  have C5 := Lib.hid (C4.out.trans (hb5.mono C4.out.size))
  have hrD5 := (hrD.below hb5).more hb5.size
  obtain ⟨gD, oD, hAD, hgD, _⟩ := hrD5 (by intro e; have := congrArg List.length e; simp [NI, digs] at this)
  have HAD := Lib.hid hAD
  have HDL := Lib.hid hrD5
  have hcv := conv_rd A5 E c5 _ w5 hr5 M HM.out hM0
  clear hrD hrD5 hb5 hr5 hAD hgD
  have hE9 : (bs E).size ≤ 9 := by rw [bs_size, ← HM.out]; exact hM1
  go_wp2_with fail
  clear hcv
  go_loopw [13, 14] (fun s13 s14 wr => ∃ (c : Nat) (sv : ByteArray), c ≤ 68 ∧ s14 = .int .i64 (c : Int) ∧ s13 = .string sv ∧ Hid (sv = bs (E ++ chainsOf sd.data.toList (ix : Int) Dg c)) ∧ Hid (Below w5.heap.size w5 wr))
    (fun _ s14 _ => 68 - (intOf s14).toNat)
  case atStart => exact ⟨0, bs E, by omega, rfl, rfl, Lib.hid (by rw [show chainsOf sd.data.toList (ix : Int) Dg 0 = [] from rfl, List.append_nil]), Lib.hid (Below.refl _ _)⟩
  case round =>
  obtain ⟨c, sv, hc, rfl, rfl, hsv, hb⟩ := hrel
  by_cases hlt : c < 68
  · obtain ⟨t, ht⟩ : ∃ t, t = sdig Dg c := ⟨_, rfl⟩
    have ht3 : t ≤ 3 := by rw [ht]; exact sdig_le _ _
    obtain ⟨D0, hD0⟩ : ∃ D, D = bot sd.data.toList (ix : Int) (c : Int) := ⟨_, rfl⟩
    obtain ⟨D, hD⟩ : ∃ D, D = adv (ix : Int) (c : Int) 0 D0 t := ⟨_, rfl⟩
    have hl0 : D0.length = 16 := by rw [hD0]; exact bot_len _ _ _
    have hl3 : D.length = 16 := by rw [hD]; exact adv_len _ _ _ _ hl0 _
    have hz1 : sv.size ≤ 1100 := by rw [hsv.out, bs_size, List.length_append, chains_len, ← HM.out]; omega
    have hzD : (bs D).size ≤ 16 := by rw [bs_size, hl3]; omega
    have HTT := Lib.hid (show sv ++ bs D = bs (E ++ chainsOf sd.data.toList (ix : Int) Dg (c + 1)) by rw [chains_succ, ← List.append_assoc, ← bs_app, hsv.out, hD, hD0, ht])
    have HCD := Lib.hid (fun W (h : Rd W w5.heap.size AD (NI (digs Dg))) => show W.cell? ⟨gD, oD + c, none⟩ = some (.int .i64 (t : Int)) by
      obtain ⟨g', o', e1, _, h3⟩ := h (by intro e; have := congrArg List.length e; simp [NI, digs] at this)
      rw [HAD.out] at e1
      injection e1 with e1
      injection e1 with e1 e2
      subst e1 e2
      rw [ht]
      exact h3 c _ (NI_get Dg c hlt))
    have H0 := Lib.hid hD0
    have H3 := Lib.hid hD
    have L0 := Lib.hid hl0
    have L3 := Lib.hid hl3
    have HOC := Lib.hid (show okInt (c : Int) from ⟨by omega, by omega⟩)
    have hcD' : 68 ≤ cD := hcD
    clear hD0 hD hl0 hl3 ht
    go_wp2_with fail
    refine wp_region_held (S := fun W => Rd W w5.heap.size AD (NI (digs Dg))) (by kernel_rfl) ?_
    change wpAnyH _ _ _ _ _ _ _ _ (World.drew wr)
    have hS0 : Rd (World.drew wr) w5.heap.size AD (NI (digs Dg)) := HDL.out.below hb.out.drew
    have BD := Lib.hid hb.out.drew
    generalize World.drew wr = Wd at hS0 BD ⊢
    refine wpAnyH_take (i := 0) (oi := { dst := some 54, op := Op.move (Operand.tmp 13), type := 9, pos := "ref.go:115", after := #[], guard := none }) (v := .string sv) rfl (by kernel_rfl) (by kernel_rfl) (by kernel_rfl) (fun _ _ _ h => h) (Or.inl ⟨by rfl, fun W hW => ?y1⟩) hS0 ?_
    case y1 => go_simp
    try dsimp only [Act.put]
    try simp only [List.setIfInBounds_toArray, List.set_cons_zero, List.set_cons_succ]
    refine wpAnyH_take (i := 1) (oi := { dst := some 55, op := Op.move (Operand.tmp 2), type := 3, pos := "ref.go:115", after := #[], guard := none }) (v := .int .i64 (ix : Int)) rfl (by kernel_rfl) (by kernel_rfl) (by kernel_rfl) (fun _ _ _ h => h) (Or.inl ⟨by rfl, fun W hW => ?y2⟩) hS0 ?_
    case y2 => go_simp
    try dsimp only [Act.put]
    try simp only [List.setIfInBounds_toArray, List.set_cons_zero, List.set_cons_succ]
    refine wpAnyH_take (i := 2) (oi := { dst := some 56, op := Op.move (Operand.tmp 14), type := 3, pos := "ref.go:115", after := #[], guard := none }) (v := .int .i64 (c : Int)) rfl (by kernel_rfl) (by kernel_rfl) (by kernel_rfl) (fun _ _ _ h => h) (Or.inl ⟨by rfl, fun W hW => ?y3⟩) hS0 ?_
    case y3 => go_simp
    try dsimp only [Act.put]
    try simp only [List.setIfInBounds_toArray, List.set_cons_zero, List.set_cons_succ]
    refine wpAnyH_take (i := 3) (oi := { dst := some 57, op := Op.move (Operand.tmp 12), type := 25, pos := "ref.go:115", after := #[], guard := none }) (v := .slice AD 68 cD) rfl (by kernel_rfl) (by kernel_rfl) (by kernel_rfl) (fun _ _ _ h => h) (Or.inl ⟨by rfl, fun W hW => ?y4⟩) hS0 ?_
    case y4 => go_simp
    try dsimp only [Act.put]
    try simp only [List.setIfInBounds_toArray, List.set_cons_zero, List.set_cons_succ]
    refine wpAnyH_take (i := 4) (oi := { dst := some 58, op := Op.move (Operand.tmp 14), type := 3, pos := "ref.go:115", after := #[], guard := none }) (v := .int .i64 (c : Int)) rfl (by kernel_rfl) (by kernel_rfl) (by kernel_rfl) (fun _ _ _ h => h) (Or.inl ⟨by rfl, fun W hW => ?y5⟩) hS0 ?_
    case y5 => go_simp
    try dsimp only [Act.put]
    try simp only [List.setIfInBounds_toArray, List.set_cons_zero, List.set_cons_succ]
    refine wpAnyH_take (i := 5) (oi := { dst := some 59, op := Op.indexAddr 25 (Operand.tmp 57) (Operand.tmp 58), type := 0, pos := "ref.go:115", after := #[{ on := 3, ground := Ground.data }, { on := 4, ground := Ground.data }], guard := none }) (v := .pointer (some ⟨gD, oD + c, none⟩)) rfl (by kernel_rfl) (by kernel_rfl) (by kernel_rfl) (fun _ _ _ h => h) (Or.inl ⟨by rfl, fun W hW => by have e := HAD.out; subst e; go_simp⟩) hS0 ?_
    try dsimp only [Act.put]
    try simp only [List.setIfInBounds_toArray, List.set_cons_zero, List.set_cons_succ]
    refine wpAnyH_take (i := 6) (oi := { dst := some 60, op := Op.load 3 (Operand.tmp 59), type := 3, pos := "ref.go:115", after := #[{ on := 5, ground := Ground.data }], guard := none }) (v := .int .i64 (t : Int)) rfl (by kernel_rfl) (by kernel_rfl) (by kernel_rfl) (fun _ _ _ h => h) (Or.inl ⟨by rfl, fun W hW => by have hcl := HCD.out W hW; go_simp⟩) hS0 ?_
    try dsimp only [Act.put]
    try simp only [List.setIfInBounds_toArray, List.set_cons_zero, List.set_cons_succ]
    refine wpAnyH_take (i := 7) (oi := { dst := some 61, op := Op.move (Operand.tmp 0), type := 9, pos := "ref.go:115", after := #[], guard := none }) (v := .string sd) rfl (by kernel_rfl) (by kernel_rfl) (by kernel_rfl) (fun _ _ _ h => h) (Or.inl ⟨by rfl, fun W hW => ?y8⟩) hS0 ?_
    case y8 => go_simp
    try dsimp only [Act.put]
    try simp only [List.setIfInBounds_toArray, List.set_cons_zero, List.set_cons_succ]
    refine wpAnyH_take (i := 8) (oi := { dst := some 62, op := Op.move (Operand.tmp 2), type := 3, pos := "ref.go:115", after := #[], guard := none }) (v := .int .i64 (ix : Int)) rfl (by kernel_rfl) (by kernel_rfl) (by kernel_rfl) (fun _ _ _ h => h) (Or.inl ⟨by rfl, fun W hW => ?y9⟩) hS0 ?_
    case y9 => go_simp
    try dsimp only [Act.put]
    try simp only [List.setIfInBounds_toArray, List.set_cons_zero, List.set_cons_succ]
    refine wpAnyH_take (i := 9) (oi := { dst := some 63, op := Op.move (Operand.tmp 14), type := 3, pos := "ref.go:115", after := #[], guard := none }) (v := .int .i64 (c : Int)) rfl (by kernel_rfl) (by kernel_rfl) (by kernel_rfl) (fun _ _ _ h => h) (Or.inl ⟨by rfl, fun W hW => ?y10⟩) hS0 ?_
    case y10 => go_simp
    try dsimp only [Act.put]
    try simp only [List.setIfInBounds_toArray, List.set_cons_zero, List.set_cons_succ]
    refine wpAnyH_ready (rs := [10]) (by kernel_rfl) (by simp) ?_
    refine AllReadyH.cons (o := { dst := some 64, op := Op.call { callee := Callee.value (Operand.func 34), args := #[Operand.tmp 61, Operand.tmp 62, Operand.tmp 63], argTypes := #[9, 3, 3] }, type := 23, pos := "ref.go:115", after := #[{ on := 7, ground := Ground.data }, { on := 8, ground := Ground.data }, { on := 9, ground := Ground.data }], guard := none }) rfl (fun K hK => ?_) AllReadyH.nil
    rw [if_pos (by rfl)]
    go_simp
    refine (rstart_any sd (ix : Int) (c : Int) _ (by have := H32.out; omega) HOI.out HOC.out (HT.out.below (BL.out.trans (BD.out.mono BL.out.size)) HT.out.1) D0 H0).mono ?_; rintro e w6 ⟨rfl, hb6⟩
    have B6 := Lib.hid (BD.out.trans (hb6.mono BD.out.size))
    have hS6 := HDL.out.below B6.out
    clear hb6
    go_wp2_with fail
    refine hK.out _ _ hS6 (fun _ => ?_)
    clear hK K
    try dsimp only [Act.put]
    try simp only [List.setIfInBounds_toArray, List.set_cons_zero, List.set_cons_succ]
    refine wpAnyH_ready (rs := [11]) (by kernel_rfl) (by simp) ?_
    refine AllReadyH.cons (o := { dst := some 65, op := Op.call { callee := Callee.value (Operand.func 33), args := #[Operand.tmp 55, Operand.tmp 56, Operand.const (Value.int IntKind.i64 0), Operand.tmp 60, Operand.tmp 64], argTypes := #[3, 3, 3, 3, 23] }, type := 23, pos := "ref.go:115", after := #[{ on := 1, ground := Ground.data }, { on := 2, ground := Ground.data }, { on := 6, ground := Ground.data }, { on := 10, ground := Ground.data }, { on := 10, ground := Ground.chain }], guard := none }) rfl (fun K hK => ?_) AllReadyH.nil
    rw [if_pos (by rfl)]
    go_simp
    refine (radvance_any D0 (ix : Int) (c : Int) 0 (t : Int) t _ L0.out HOI.out HOC.out (by omega) (Lib.hid (by omega)) (by omega) (HT.out.below (BL.out.trans (B6.out.mono BL.out.size)) HT.out.1) D H3).mono ?_; rintro e w7 ⟨rfl, hb7⟩
    have B7 := Lib.hid (B6.out.trans (hb7.mono B6.out.size))
    have hS7 := HDL.out.below B7.out
    clear hb7
    go_wp2_with fail
    refine hK.out _ _ hS7 (fun _ => ?_)
    clear hK K
    try dsimp only [Act.put]
    try simp only [List.setIfInBounds_toArray, List.set_cons_zero, List.set_cons_succ]
    refine wpAnyH_ready (rs := [12]) (by kernel_rfl) (by simp) ?_
    refine AllReadyH.cons (o := { dst := some 66, op := Op.call { callee := Callee.value (Operand.func 32), args := #[Operand.tmp 65], argTypes := #[23] }, type := 9, pos := "ref.go:115", after := #[{ on := 11, ground := Ground.data }, { on := 11, ground := Ground.chain }], guard := none }) rfl (fun K hK => ?_) AllReadyH.nil
    rw [if_pos (by rfl)]
    go_simp
    refine (text_any D w7 L3.out).mono ?_; rintro e w8 ⟨rfl, hb8⟩
    rw [show (⟨D.toArray⟩ : ByteArray) = bs D from rfl]
    have B8' := Lib.hid (B7.out.trans (hb8.mono B7.out.size))
    have hS8 := HDL.out.below B8'.out
    clear hb8
    go_wp2_with fail
    refine hK.out _ _ hS8 (fun _ => ?_)
    clear hK K
    try dsimp only [Act.put]
    try simp only [List.setIfInBounds_toArray, List.set_cons_zero, List.set_cons_succ]
    refine wpAnyH_ready (rs := [13]) (by kernel_rfl) (by simp) ?_
    refine AllReadyH.cons (o := { dst := some 67, op := Op.binOp BinOp.add 9 (Operand.tmp 54) (Operand.tmp 66) 9, type := 9, pos := "ref.go:115", after := #[{ on := 0, ground := Ground.data }, { on := 12, ground := Ground.data }], guard := none }) rfl (fun K hK => ?_) AllReadyH.nil
    rw [if_pos (by rfl)]
    have hct : ¬ (9223372036854775807 < sv.size + (bs D).size) := by omega
    go_simp
    try (rw [if_neg hct])
    refine hK.out _ _ hS8 (fun _ => ?_)
    clear hK K
    try dsimp only [Act.put]
    try simp only [List.setIfInBounds_toArray, List.set_cons_zero, List.set_cons_succ]
    refine wpAnyH_ready (rs := [14]) (by kernel_rfl) (by simp) ?_
    refine AllReadyH.cons (o := { dst := some 13, op := Op.assign (Operand.tmp 67), type := 9, pos := "ref.go:115", after := #[{ on := 13, ground := Ground.data }, { on := 12, ground := Ground.chain }, { on := 0, ground := Ground.phase }, { on := 1, ground := Ground.phase }, { on := 2, ground := Ground.phase }, { on := 3, ground := Ground.phase }, { on := 4, ground := Ground.phase }, { on := 5, ground := Ground.phase }, { on := 6, ground := Ground.phase }, { on := 7, ground := Ground.phase }, { on := 8, ground := Ground.phase }, { on := 9, ground := Ground.phase }, { on := 10, ground := Ground.phase }, { on := 11, ground := Ground.phase }, { on := 12, ground := Ground.phase }, { on := 13, ground := Ground.phase }], guard := none }) rfl (fun K hK => ?_) AllReadyH.nil
    rw [if_pos (by rfl)]
    go_simp
    refine hK.out _ _ hS8 (fun _ => ?_)
    clear hK K
    try dsimp only [Act.put]
    try simp only [List.setIfInBounds_toArray, List.set_cons_zero, List.set_cons_succ]
    refine wpAnyH_done (by kernel_rfl) ?_ _
    try dsimp only [Act.put]
    try simp only [List.setIfInBounds_toArray, List.set_cons_zero, List.set_cons_succ]
    go_wp2_with fail
    go_roundw
    case rel => exact ⟨c + 1, _, by omega, by go_num, rfl, HTT, B8'⟩
    case measure => simp only [intOf]; omega
  · have hc68 : c = 68 := by omega
    have hnlt : ¬ (c : Int) < 68 := by omega
    rw [hc68] at hsv
    have HT68 := hsv
    have HB5 := hb
    clear hsv hb hlt hc hc68
    obtain ⟨T, hTT⟩ : ∃ T, T = E ++ chainsOf sd.data.toList (ix : Int) Dg 68 := ⟨_, rfl⟩
    have HTT := Lib.hid hTT
    have HTl := Lib.hid (show T.length ≤ 1100 by rw [hTT, List.length_append, chains_len, ← HM.out]; omega)
    have HT68' := Lib.hid (show sv = bs T by rw [hTT]; exact HT68.out)
    clear hTT HT68
    go_wp2_with fail
    go_loopw [13, 15, 16, 17] (fun s13 s15 s16 s17 wr2 => ∃ (l : Nat) (sv2 : ByteArray), l ≤ h ∧ s16 = .int .i64 (l : Int) ∧ s15 = .int .i64 ((ix / 2 ^ l : Nat) : Int) ∧ s13 = .string sv2 ∧ Hid (sv2 = bs (T ++ bes sd.data.toList ix l)) ∧ Hid (Below w5.heap.size w5 wr2))
      (fun _ _ s16 _ _ => h - (intOf s16).toNat)
    case atStart => exact ⟨0, sv, by omega, rfl, by simp, rfl, Lib.hid (by rw [show bes sd.data.toList ix 0 = [] from rfl, List.append_nil]; exact HT68'.out), HB5⟩
    case round =>
    clear HB5 HT68'
    obtain ⟨l, sv2, hl, rfl, rfl, rfl, hsv, hb⟩ := hrel
    by_cases hlt : l < h
    · obtain ⟨n, hn⟩ : ∃ n, n = ix / 2 ^ l := ⟨_, rfl⟩
      rw [← hn]
      have hnP : n < 2 * 2 ^ (h - (l + 1)) := by
        rw [hn, Nat.div_lt_iff_lt_mul (Nat.two_pow_pos _), ← Nat.pow_succ', ← Nat.pow_add, show h - (l + 1) + 1 + l = h by omega]
        exact HIX.out
      have hk2 := sib_half hnP
      rw [← Nat.pow_succ', show (h - (l + 1)).succ = h - l by omega] at hk2 hnP
      obtain ⟨k, hk⟩ : ∃ k, k = sib n := ⟨_, rfl⟩
      rw [← hk] at hk2
      obtain ⟨QW, hQW⟩ : ∃ Q : Nat, Q = 2 ^ (h - l) := ⟨_, rfl⟩
      obtain ⟨gM, cM, hgM, hcellM, hdigM⟩ := HAT.out l (by omega)
      rw [← hQW] at hk2 hcellM hnP hdigM
      obtain ⟨D, hD⟩ : ∃ D, D = node sd.data.toList l k := ⟨_, rfl⟩
      have hl3 : D.length = 16 := by rw [hD]; exact node_len _ _ _
      have hdg := Lib.hid hdigM
      have HD := Lib.hid hD.symm
      have hn6 : n < 64 := by rw [hn]; exact Nat.lt_of_le_of_lt (Nat.div_le_self _ _) hix6
      have hnx : ix / 2 ^ (l + 1) = n / 2 := by rw [hn, Nat.pow_succ, ← Nat.div_div_eq_div_mul]
      have HNX := Lib.hid hnx
      have hzl : sv2.size ≤ 1300 := by rw [hsv.out, bs_size, List.length_append, bes_len]; have := HTl.out; omega
      have hzD : (bs D).size ≤ 16 := by rw [bs_size, hl3]; omega
      have HNT := Lib.hid (show sv2 ++ bs D = bs (T ++ bes sd.data.toList ix (l + 1)) by rw [bes_succ, ← List.append_assoc, ← bs_app, hsv.out, hD, hk, hn])
      have L3 := Lib.hid hl3
      have C6 := Lib.hid (C5.out.trans (hb.out.mono C5.out.size))
      have hlt2 : (l : Int) < (h : Int) := by omega
      have hlt3 : (l : Int) < (h : Int) + 1 := by omega
      have hkq : (k : Int) < (QW : Int) := by omega
      have HC := Lib.hid hcellM
      have hdiv : (n : Int).tdiv 2 = ((n / 2 : Nat) : Int) := by rw [Int.tdiv_eq_ediv_of_nonneg (by omega)]; rfl
      have hmod : (n : Int).tmod 2 = ((n % 2 : Nat) : Int) := by rw [Int.tmod_eq_emod_of_nonneg (by omega)]; rfl
      have HGM := Lib.hid hgM
      have HN := Lib.hid hn
      clear hdigM hcellM hD hl3 hn hnP hnx hgM
      rcases Nat.mod_two_eq_zero_or_one n with h0 | h0
      · have hkn : (n : Int) + 1 = (k : Int) := by rw [hk]; unfold sib; rw [if_pos h0]; omega
        rw [h0] at hmod
        have hmod' : (n : Int).tmod 2 = 0 := hmod
        clear hmod h0 hk
        have hcl : wr.cell? ⟨gO, l, none⟩ = some (.slice (some ⟨gM, 0, none⟩) QW cM) := by rw [Below.cell C6.out HGO.out]; exact HC.out
        have hld : ∀ i u, (B8 D)[i]? = some u → wr.cell? ((⟨gM, k * 16, none⟩ : Addr).add i) = some u := fun i u hu => by
          have := hdg.out k hk2 i u (by rw [HD.out]; exact hu)
          rw [Addr.add_lit] at this ⊢
          rw [Below.cell C6.out HGM.out]
          exact this
        have HLDk := Lib.hid hld
        clear hld
        go_wp2_with (with_reducible refine wpList_load_at rfl 23 (.tmp 87) rfl ⟨gM, k * 16, none⟩ rfl (B8 D) (.array 16 5) HLDk.out Tryd.underlying23 rfl (size23 _ L3.out) ?_)
        refine (text_any D wr L3.out).mono ?_; rintro e w8 ⟨rfl, hb8⟩
        rw [show (⟨D.toArray⟩ : ByteArray) = bs D from rfl]
        have B8' := Lib.hid (hb.out.trans (hb8.mono hb.out.size))
        clear hb8
        have hct : ¬ (9223372036854775807 < sv2.size + (bs D).size) := by omega
        go_wp2_with fail
        go_roundw
        case rel => first | exact ⟨l + 1, _, by omega, by go_num, by rw [HNX.out]; go_num, rfl, HNT, B8'⟩ | exact ⟨_, l + 1, _, by omega, by go_num, by rw [HNX.out]; go_num, rfl, HNT, B8'⟩ | (trace_state; fail)
        case measure => first | (show h - ((l : Int) + 1).toNat < h - (l : Int).toNat; omega) | (simp [intOf]; omega)
      · have hkn : (n : Int) - 1 = (k : Int) := by rw [hk]; unfold sib; rw [if_neg (by omega)]; omega
        rw [h0] at hmod
        have hmod' : (n : Int).tmod 2 = 1 := hmod
        clear hmod h0 hk
        have hcl : wr.cell? ⟨gO, l, none⟩ = some (.slice (some ⟨gM, 0, none⟩) QW cM) := by rw [Below.cell C6.out HGO.out]; exact HC.out
        have hld : ∀ i u, (B8 D)[i]? = some u → wr.cell? ((⟨gM, k * 16, none⟩ : Addr).add i) = some u := fun i u hu => by
          have := hdg.out k hk2 i u (by rw [HD.out]; exact hu)
          rw [Addr.add_lit] at this ⊢
          rw [Below.cell C6.out HGM.out]
          exact this
        have HLDk := Lib.hid hld
        clear hld
        go_wp2_with (with_reducible refine wpList_load_at rfl 23 (.tmp 87) rfl ⟨gM, k * 16, none⟩ rfl (B8 D) (.array 16 5) HLDk.out Tryd.underlying23 rfl (size23 _ L3.out) ?_)
        refine (text_any D wr L3.out).mono ?_; rintro e w8 ⟨rfl, hb8⟩
        rw [show (⟨D.toArray⟩ : ByteArray) = bs D from rfl]
        have B8' := Lib.hid (hb.out.trans (hb8.mono hb.out.size))
        clear hb8
        have hct : ¬ (9223372036854775807 < sv2.size + (bs D).size) := by omega
        go_wp2_with fail
        go_roundw
        case rel => first | exact ⟨l + 1, _, by omega, by go_num, by rw [HNX.out]; go_num, rfl, HNT, B8'⟩ | exact ⟨_, l + 1, _, by omega, by go_num, by rw [HNX.out]; go_num, rfl, HNT, B8'⟩ | (trace_state; fail)
        case measure => first | (show h - ((l : Int) + 1).toNat < h - (l : Int).toNat; omega) | (simp [intOf]; omega)
    · obtain rfl : l = h := by omega
      go_wp2_with fail
      go_ret2
      refine ⟨?_, BL.out.trans (hb.out.mono BL.out.size)⟩
      rw [hsv.out, HTT.out, HE.out, HDg.out, HP.out, hR.out]; rfl
end Go.Proofs.YtgonidjajmjniaaDoor
