/-
  The contracts of sign's Sign and Verify.
  Conditions: lengths of strings; the table of the round constants is as the text lays it.
-/
import Derived.Test.YtgonidjajmjniaaDoorTrees
import Derived.Test.YtgonidjajmjniaaDoorChains
import Derived.Test.YtgonidjajmjniaaDoorLawA
import Derived.Lib.IndexBytes
namespace Go.Proofs.YtgonidjajmjniaaDoor
open Go.RowKit Wr Sh
set_option linter.unusedVariables false
set_option maxRecDepth 100000

/-- The values of the first chains, as they are signed. -/
def chainsOf (s : List UInt8) (ix : Int) (D : List UInt8) (n : Nat) : List UInt8 := ((List.range n).map fun c : Nat => adv ix (c : Int) 0 (bot s ix (c : Int)) (sdig D c)).flatten
theorem chains_succ (s : List UInt8) (ix : Int) (D : List UInt8) (n : Nat) : chainsOf s ix D (n + 1) = chainsOf s ix D n ++ adv ix (n : Int) 0 (bot s ix (n : Int)) (sdig D n) := by
  unfold chainsOf; rw [List.range_succ, List.map_append, List.flatten_append]; simp
theorem chains_len (s : List UInt8) (ix : Int) (D : List UInt8) (n : Nat) : (chainsOf s ix D n).length = 16 * n := by
  induction n with
  | zero => rfl
  | succ n ih => rw [chains_succ, List.length_append, ih, adv_len _ _ _ _ (bot_len _ _ _)]; omega
/-- The signature. -/
def sigOf (s : List UInt8) (h ix : Nat) (m : ByteArray) : List UInt8 := enc (ix : Int) ++ chainsOf s (ix : Int) (digOf (node s h 0) (ix : Int) m) 68 ++ bes s ix h
theorem own_ne {w : World} {base n g : Nat} {t : TypeId} {cs xs : List Value} {v : Value} (h : w.ownsRow base 5 1 v n xs) (hb : Blk w g t cs) (ht : t ≠ 5) : some g ≠ v.ownBlock := by
  rcases h.2 with ⟨rfl, _⟩ | ⟨g', cap, cur, rfl, _, hgg, _, _, _, _⟩
  · simp [Value.ownBlock]
  · intro e
    simp [Value.ownBlock] at e
    subst e
    unfold Blk at hb
    rw [hgg] at hb
    injection hb with hb
    injection hb with _ h2 _
    exact ht h2.symm
theorem own_low {w : World} {base base' e size n : Nat} {xs : List Value} {v : Value} (h : w.ownsRow base e size v n xs) (hb : base' ≤ base) : w.ownsRow base' e size v n xs := by
  refine ⟨h.1, ?_⟩
  rcases h.2 with hn | ⟨g, cap, cur, h1, h2, rest⟩
  · exact .inl hn
  · exact .inr ⟨g, cap, cur, h1, Nat.le_trans hb h2, rest⟩
theorem bes_dig (s : List UInt8) (ix h j : Nat) (hj : j < h) : dig16 (bes s ix h) j = node s j (sib (ix / 2 ^ j)) := by
  induction h with
  | zero => omega
  | succ h ih =>
    rw [bes_succ]
    unfold dig16
    rcases Nat.lt_or_ge j h with hlt | hge
    · rw [List.drop_append_of_le_length (by rw [bes_len]; omega), List.take_append_of_le_length (by rw [List.length_drop, bes_len]; omega)]
      exact ih hlt
    · obtain rfl : j = h := by omega
      rw [List.drop_append_of_le_length (by rw [bes_len]; omega), List.drop_eq_nil_of_le (by rw [bes_len]; omega), List.nil_append, List.take_of_length_le (by rw [node_len]; omega)]
/-- What stays while a signature is written. -/
structure KeepS (w : World) (gD G : Nat) (Dg Bs : List UInt8) (W : World) : Prop where
  d : Blk W gD 43 (NI (digs Dg))
  g : Blk W G 23 (B8 Bs)
  b : Below w.heap.size w W
theorem KeepS.alloc {w W : World} {gD G : Nat} {Dg Bs : List UInt8} (h : KeepS w gD G Dg Bs W) (o : Obj) : KeepS w gD G Dg Bs (W.alloc o) := ⟨h.d.alloc _, h.g.alloc _, h.b.alloc h.b.size _⟩
theorem KeepS.below {w W W' : World} {gD G : Nat} {Dg Bs : List UInt8} (h : KeepS w gD G Dg Bs W) (hb : Below W.heap.size W W') : KeepS w gD G Dg Bs W' := ⟨h.d.below hb h.d.lt, h.g.below hb h.g.lt, h.b.trans (hb.mono h.b.size)⟩
theorem KeepS.row {w W : World} {gD G : Nat} {Dg Bs : List UInt8} (h : KeepS w gD G Dg Bs W) (g' : Nat) (hg : W.heap.size ≤ g') (R : Array Value) (o : Obj) : KeepS w gD G Dg Bs ((W.alloc o).setRow g' R) :=
  ⟨(h.d.alloc _).setRow (by have := h.d.lt; omega) _, (h.g.alloc _).setRow (by have := h.g.lt; omega) _, belowRow (h.b.alloc h.b.size _) (Nat.le_trans h.b.size hg) _⟩
theorem KeepS.grown {w W W' : World} {gD G : Nat} {Dg Bs : List UInt8} (h : KeepS w gD G Dg Bs W) {v : Value} {n : Nat} {xs : List Value} (ho : W.ownsRow w.heap.size 5 1 v n xs) (hg : W.grownBy W' v.ownBlock) : KeepS w gD G Dg Bs W' :=
  ⟨h.d.grown hg (own_ne ho h.d (by decide)), h.g.grown hg (own_ne ho h.g (by decide)), h.b.grown hg h.b.size (fun q hq => (ho.lt q hq).1)⟩
theorem load16 {W : World} {G : Nat} {Bs : List UInt8} (h : Blk W G 23 (B8 Bs)) (j : Nat) : ∀ i v, (B8 (dig16 Bs j))[i]? = some v → W.cell? ((⟨G, j * 16, none⟩ : Addr).add i) = some v := by
  intro i v hv
  rw [Addr.add_lit, h.cell]
  unfold B8 dig16 at hv
  unfold B8
  rw [List.getElem?_map, List.getElem?_take] at hv
  rw [List.getElem?_map]
  split at hv
  · rw [List.getElem?_drop, Nat.mul_comm] at hv; exact hv
  · cases hv

set_option maxHeartbeats 4000000 in
theorem sign_ok (sd : ByteArray) (h ix : Nat) (m : ByteArray) (w : World) (h32 : sd.size = 32) (hh : h ≤ 6) (hix : ix < 2 ^ h) (hm : m.size ≤ 1048576) (ht : Tab 1 w) (R : List UInt8) (hR : Hid (R = sigOf sd.data.toList h ix m)) :
    Calls Tryd.prog 14 #[.string sd, .int .i64 (h : Int), .int .i64 (ix : Int), .string m] w fun e w' => e = .returned (.tuple #[.string (bs R), .int .i64 0]) ∧ Below w.heap.size w w' := by
  obtain ⟨i0, hi0, hz0, hz1, hz2⟩ := info_parts Tryd.info5
  have HI5 := Lib.hid (And.intro hi0 (And.intro hz0 (And.intro hz1 hz2)))
  have hp6 : 2 ^ h ≤ 64 := Nat.le_trans (Nat.pow_le_pow_right (by decide) hh) (by decide)
  have hix6 : ix < 64 := by omega
  have hZ := hZ16
  have hsz : (sd.size == 32) = true := by rw [beq_iff_eq]; exact h32
  have hht : decide (0 ≤ (h : Int) ∧ (h : Int) ≤ 6) = true := by simp; omega
  have hin : decide (0 ≤ (ix : Int) ∧ (ix : Int) < ((2 ^ h : Nat) : Int)) = true := by rw [decide_eq_true_eq]; exact ⟨by omega, Int.ofNat_lt.2 hix⟩
  have H32 := Lib.hid h32
  have HIX := Lib.hid hix
  have HT := Lib.hid ht
  have HOI := Lib.hid (show okInt (ix : Int) from ⟨by omega, by omega⟩)
  obtain ⟨P, hP⟩ : ∃ P, P = node sd.data.toList h 0 := ⟨_, rfl⟩
  obtain ⟨Bs, hBs⟩ : ∃ Bs, Bs = bes sd.data.toList ix h := ⟨_, rfl⟩
  obtain ⟨E, hE⟩ : ∃ E, E = enc (ix : Int) := ⟨_, rfl⟩
  obtain ⟨M, hM⟩ : ∃ M, M = E.length := ⟨_, rfl⟩
  have hM0 : 0 < M := by rw [hM, hE]; exact (enc_le _).1
  have hM1 : M ≤ 9 := by rw [hM, hE]; exact (enc_le _).2
  obtain ⟨Dg, hDg⟩ : ∃ Dg, Dg = digOf P (ix : Int) m := ⟨_, rfl⟩
  have HP := Lib.hid hP
  have HPl := Lib.hid (show P.length = 16 by rw [hP]; exact node_len _ _ _)
  have HBs := Lib.hid hBs
  have HE := Lib.hid hE
  have HM := Lib.hid hM
  have HDg := Lib.hid hDg
  have HDgl := Lib.hid (show Dg.length = 16 by rw [hDg]; exact dof_len _ _)
  clear h32 hix ht hi0 hz0 hz1 hz2 hP hBs hE hM hDg
  go_enter Tryd.func14, Tryd.ntmps14
  go_wp2_with (first
    | (go_at_call 22; refine (isSeed_any sd _).mono ?_; rintro e w' ⟨rfl, rfl⟩; simp only [hsz])
    | (go_at_call 23; refine (isHeight_any (h : Int) _).mono ?_; rintro e w' ⟨rfl, rfl⟩; simp only [hht])
    | (go_at_call 27; refine (isIndex_any (ix : Int) h _ hh).mono ?_; rintro e w' ⟨rfl, rfl⟩; simp only [hin]))
  refine (growth_any sd ix h w (by have := H32.out; omega) hh HIX.out HT.out P HP.out).mono ?_; rintro e w1 ⟨G, rfl, hG, hGl, hb1⟩
  rw [← HBs.out] at hG
  obtain ⟨w2, hw2⟩ : ∃ W, W = (w1.alloc (.cells Z16.toArray 23)).setRow w1.heap.size (B8 P).toArray := ⟨_, rfl⟩
  have B2 := Lib.hid (show Below w.heap.size w w2 by rw [hw2]; exact belowRow (hb1.alloc hb1.size _) hb1.size _)
  have KG2 := Lib.hid (show Blk w2 G 23 (B8 Bs) by rw [hw2]; exact (hG.alloc _).setRow (by have := hG.lt; omega) _)
  have KP2 := Lib.hid (show Blk w2 w1.heap.size 23 (B8 P) by rw [hw2]; exact (Blk.new w1 23 Z16).row _)
  have HW2 := Lib.hid hw2
  clear hw2 hb1 hG hGl
  go_wp2_with (with_reducible refine wpList_store_row rfl 23 (.tmp 10) (.tmp 38) rfl w1.heap.size (B8 P).toArray rfl rfl 23 _ (heap_alloc_new w1 _) (size23' _ HPl.out) (Z16_size _ HPl.out) (one8 _) ?_; rw [← HW2.out])
  refine (int_any (ix : Int) _ HOI.out.1 HOI.out.2).mono ?_; rintro e w3 ⟨v3, rfl, ho3, hb3⟩
  have B3 := Lib.hid (B2.out.trans (hb3.mono B2.out.size))
  have KG3 := Lib.hid (KG2.out.below hb3 KG2.out.lt)
  have KP3 := Lib.hid (KP2.out.below hb3 KP2.out.lt).at
  rw [← HE.out, ← HM.out] at ho3
  have O3 := Lib.hid ho3
  have L32 := Lib.hid B2.out.size
  clear ho3 hb3
  go_wp2_with (with_reducible refine wpList_load_at rfl 23 (.tmp 10) rfl ⟨w1.heap.size, 0, none⟩ rfl (B8 P) (.array 16 5) KP3.out Tryd.underlying23 rfl (size23 _ HPl.out) ?_)
  refine (digest_any P (ix : Int) m w3 HPl.out HOI.out (by omega) (HT.out.below B3.out HT.out.1) Dg HDg).mono ?_; rintro e w4 ⟨rfl, hb4⟩
  have B4 := Lib.hid (B3.out.trans (hb4.mono B3.out.size))
  have KG4 := Lib.hid (KG3.out.below hb4 KG3.out.lt)
  have O4 := Lib.hid (own_below O3.out hb4)
  clear hb4
  go_wp2_with fail
  refine (digits_any Dg w4 HDgl.out).mono ?_; rintro e w5 ⟨gD, rfl, hgD, hgl, hb5⟩
  have K5 := Lib.hid (show KeepS w gD G Dg Bs w5 from ⟨hgD, KG4.out.below hb5 KG4.out.lt, B4.out.trans (hb5.mono B4.out.size)⟩)
  have O5 := Lib.hid (show w5.ownsRow w.heap.size 5 1 v3 M (B8 E) from own_low (own_below O4.out hb5) L32.out)
  clear hgD hgl hb5
  go_wp2_with fail
  go_loopw [12, 48] (fun s12 s48 wr => ∃ c : Nat, c ≤ 68 ∧ s48 = .int .i64 (c : Int) ∧ Hid (wr.ownsRow w.heap.size 5 1 s12 (M + 16 * c) (B8 (E ++ chainsOf sd.data.toList (ix : Int) Dg c))) ∧ Hid (KeepS w gD G Dg Bs wr))
    (fun _ s48 _ => 68 - (intOf s48).toNat)
  case atStart => exact ⟨0, by omega, rfl, Lib.hid (by rw [show chainsOf sd.data.toList (ix : Int) Dg 0 = [] from rfl, List.append_nil]; exact O5.out), K5⟩
  case round =>
  obtain ⟨c, hc, rfl, ho, hk⟩ := hrel
  clear K5 O5 O4 KG4 B4 O3 KP3 KG3 B3 KP2 KG2 B2 HW2
  by_cases hlt : c < 68
  · obtain ⟨X, hX⟩ : ∃ X, X = chainsOf sd.data.toList (ix : Int) Dg c := ⟨_, rfl⟩
    rw [← hX] at ho
    obtain ⟨D0, hD0⟩ : ∃ D, D = bot sd.data.toList (ix : Int) (c : Int) := ⟨_, rfl⟩
    obtain ⟨t, ht⟩ : ∃ t, t = sdig Dg c := ⟨_, rfl⟩
    obtain ⟨D, hD⟩ : ∃ D, D = adv (ix : Int) (c : Int) 0 D0 t := ⟨_, rfl⟩
    have hl0 : D0.length = 16 := by rw [hD0]; exact bot_len _ _ _
    have hl3 : D.length = 16 := by rw [hD]; exact adv_len _ _ _ _ hl0 _
    have ht3 : t ≤ 3 := by rw [ht]; exact sdig_le _ _
    have cD : wr.cell? ⟨gD, c, none⟩ = some (.int .i64 (t : Int)) := by rw [hk.out.d.cell, ht]; exact NI_get Dg c hlt
    have HX := Lib.hid (show (E ++ X) ++ D = E ++ chainsOf sd.data.toList (ix : Int) Dg (c + 1) by rw [chains_succ, hX, hD, hD0, ht, List.append_assoc])
    have H0 := Lib.hid hD0
    have H3 := Lib.hid hD
    have L0 := Lib.hid hl0
    have L3 := Lib.hid hl3
    have HOC := Lib.hid (show okInt (c : Int) from ⟨by omega, by omega⟩)
    clear hD0 hD hl0 hl3 hX ht
    go_wp2_with fail
    refine (bottom_any sd (ix : Int) (c : Int) _ (by have := H32.out; omega) HOI.out HOC.out (HT.out.below hk.out.b HT.out.1) D0 H0).mono ?_; rintro e w6 ⟨rfl, hb6⟩
    have k6 := Lib.hid (hk.out.below hb6)
    have o6 := Lib.hid (own_below ho.out hb6)
    clear hb6
    go_wp2_with fail
    refine (advance_any D0 (ix : Int) (c : Int) 0 (t : Int) t _ L0.out HOI.out HOC.out (by omega) (Lib.hid (by omega)) (by omega) (HT.out.below k6.out.b HT.out.1) D H3).mono ?_; rintro e w7 ⟨rfl, hb7⟩
    have k7 := Lib.hid (k6.out.below hb7)
    have o7 := Lib.hid (own_below o6.out hb7)
    clear hb7
    obtain ⟨W8, hW8⟩ : ∃ W, W = (w7.alloc (.cells Z16.toArray 23)).setRow w7.heap.size (B8 D).toArray := ⟨_, rfl⟩
    have k8 := Lib.hid (show KeepS w gD G Dg Bs W8 by rw [hW8]; exact k7.out.row _ (Nat.le_refl _) _ _)
    have o8 := Lib.hid (show W8.ownsRow w.heap.size 5 1 u12 (M + 16 * c) (B8 (E ++ X)) by
      rw [hW8]
      exact own_below o7.out (show Below w7.heap.size w7 ((w7.alloc (.cells Z16.toArray 23)).setRow w7.heap.size (B8 D).toArray) from belowRow ((Below.refl _ _).alloc (Nat.le_refl _) _) (Nat.le_refl _) _))
    have D8 := Lib.hid (show Blk W8 w7.heap.size 23 (B8 D) by rw [hW8]; exact (Blk.new w7 23 Z16).row _)
    have HW8 := Lib.hid hW8
    have HL := Lib.hid (show (B8 D).length = 16 * 1 by rw [B8_len, L3.out])
    have hsz8 : w.heap.size ≤ W8.heap.size := k8.out.b.size
    clear hW8
    go_wp2_with (first
      | (with_reducible refine wpList_store_row rfl 23 (.tmp 15) (.tmp 60) rfl w7.heap.size (B8 D).toArray rfl rfl 23 _ (heap_alloc_new w7 _) (size23' _ L3.out) (Z16_size _ L3.out) (one8 _) ?_; rw [← HW8.out])
      | (at_builtin; refine wpList_append_own _ rfl (.tmp 61) (.tmp 62) 54 rfl w.heap.size 5 i0 (.int .u8 0) 1 1 Tryd.underlying54 HI5.out.1 HI5.out.2.1 HI5.out.2.2.1 HI5.out.2.2.2 rfl (by decide) u12 (M + 16 * c) (B8 (E ++ X)) rfl o8.out ⟨w7.heap.size, 0, none⟩ 16 16 (B8 D) rfl HL.out D8.out.at (B8_one _) (by unfold maxLen; omega) (by omega) hsz8 ?_; intro v9 w9 o9 hg9 _))
    have k9 := Lib.hid (k8.out.grown o8.out hg9)
    have o10 := Lib.hid (show w9.ownsRow w.heap.size 5 1 v9 (M + 16 * (c + 1)) (B8 (E ++ chainsOf sd.data.toList (ix : Int) Dg (c + 1))) by rw [← HX.out, B8_append (E ++ X)]; exact o9)
    clear o9 hg9
    go_wp2_with fail
    go_roundw
    case rel => exact ⟨c + 1, by omega, by go_num, o10, k9⟩
    case measure => simp only [intOf]; omega
  · obtain rfl : c = 68 := by omega
    obtain ⟨Y, hY⟩ : ∃ Y, Y = E ++ chainsOf sd.data.toList (ix : Int) Dg 68 := ⟨_, rfl⟩
    rw [← hY] at ho
    have HY := Lib.hid hY
    clear hY hlt hc
    go_wp2_with fail
    go_loopw [12, 67] (fun s12 s67 wq => ∃ j : Nat, j ≤ h ∧ s67 = .int .i64 (j : Int) ∧ Hid (wq.ownsRow w.heap.size 5 1 s12 (M + 1088 + 16 * j) (B8 (Y ++ bes sd.data.toList ix j))) ∧ Hid (KeepS w gD G Dg Bs wq))
      (fun _ s67 _ => h - (intOf s67).toNat)
    case atStart => exact ⟨0, by omega, rfl, Lib.hid (by rw [show bes sd.data.toList ix 0 = [] from rfl, List.append_nil]; exact ho.out), hk⟩
    case round =>
    clear hk ho
    obtain ⟨j, hj, rfl, ho, hk⟩ := hrel
    by_cases hlt : j < h
    · obtain ⟨D, hD⟩ : ∃ D, D = dig16 Bs j := ⟨_, rfl⟩
      have hDn : D = node sd.data.toList j (sib (ix / 2 ^ j)) := by rw [hD, HBs.out]; exact bes_dig _ _ _ _ hlt
      have L3 := Lib.hid (show D.length = 16 by rw [hDn]; exact node_len _ _ _)
      have HX := Lib.hid (show (Y ++ bes sd.data.toList ix j) ++ D = Y ++ bes sd.data.toList ix (j + 1) by rw [bes_succ, hDn, List.append_assoc])
      have HLD := Lib.hid (show ∀ i v, (B8 D)[i]? = some v → wr.cell? ((⟨G, j * 16, none⟩ : Addr).add i) = some v by rw [hD]; exact load16 hk.out.g j)
      obtain ⟨W8, hW8⟩ : ∃ W, W = (wr.alloc (.cells Z16.toArray 23)).setRow wr.heap.size (B8 D).toArray := ⟨_, rfl⟩
      have k8 := Lib.hid (show KeepS w gD G Dg Bs W8 by rw [hW8]; exact hk.out.row _ (Nat.le_refl _) _ _)
      have o8 := Lib.hid (show W8.ownsRow w.heap.size 5 1 u12 (M + 1088 + 16 * j) (B8 (Y ++ bes sd.data.toList ix j)) by
        rw [hW8]
        exact own_below ho.out (show Below wr.heap.size wr ((wr.alloc (.cells Z16.toArray 23)).setRow wr.heap.size (B8 D).toArray) from belowRow ((Below.refl _ _).alloc (Nat.le_refl _) _) (Nat.le_refl _) _))
      have D8 := Lib.hid (show Blk W8 wr.heap.size 23 (B8 D) by rw [hW8]; exact (Blk.new wr 23 Z16).row _)
      have HW8 := Lib.hid hW8
      have HL := Lib.hid (show (B8 D).length = 16 * 1 by rw [B8_len, L3.out])
      have hsz8 : w.heap.size ≤ W8.heap.size := k8.out.b.size
      clear hW8 hD hDn
      go_wp2_with (first
        | (with_reducible refine wpList_load_at rfl 23 (.tmp 69) rfl ⟨G, j * 16, none⟩ rfl (B8 D) (.array 16 5) HLD.out Tryd.underlying23 rfl (size23 _ L3.out) ?_)
        | (with_reducible refine wpList_store_row rfl 23 (.tmp 17) (.tmp 70) rfl wr.heap.size (B8 D).toArray rfl rfl 23 _ (heap_alloc_new wr _) (size23' _ L3.out) (Z16_size _ L3.out) (one8 _) ?_; rw [← HW8.out])
        | (at_builtin; refine wpList_append_own _ rfl (.tmp 71) (.tmp 72) 54 rfl w.heap.size 5 i0 (.int .u8 0) 1 1 Tryd.underlying54 HI5.out.1 HI5.out.2.1 HI5.out.2.2.1 HI5.out.2.2.2 rfl (by decide) u12 (M + 1088 + 16 * j) (B8 (Y ++ bes sd.data.toList ix j)) rfl o8.out ⟨wr.heap.size, 0, none⟩ 16 16 (B8 D) rfl HL.out D8.out.at (B8_one _) (by unfold maxLen; omega) (by omega) hsz8 ?_; intro v9 w9 o9 hg9 _))
      have k9 := Lib.hid (k8.out.grown o8.out hg9)
      have o10 := Lib.hid (show w9.ownsRow w.heap.size 5 1 v9 (M + 1088 + 16 * (j + 1)) (B8 (Y ++ bes sd.data.toList ix (j + 1))) by rw [← HX.out, B8_append (Y ++ bes sd.data.toList ix j)]; exact o9)
      clear o9 hg9
      go_wp2_with fail
      go_roundw
      case rel =>
        have hr1 : ∃ jj : Nat, jj ≤ h ∧ Value.int .i64 ((j : Int) + 1) = .int .i64 (jj : Int) ∧ Hid (w9.ownsRow w.heap.size 5 1 v9 (M + 1088 + 16 * jj) (B8 (Y ++ bes sd.data.toList ix jj))) ∧ Hid (KeepS w gD G Dg Bs w9) := ⟨j + 1, by omega, by go_num, o10, k9⟩
        first
          | exact hr1
          | ((repeat apply Exists.intro); exact ⟨hr1, rfl⟩)
      case measure => simp [intOf]; omega
    · obtain rfl : j = h := by omega
      obtain ⟨A, cc, rfl, h1, h2, h3⟩ := own_form ho.out
      have HRs := Lib.hid (show Y ++ bes sd.data.toList ix j = R by rw [hR.out, HY.out, HE.out, HDg.out, HP.out]; rfl)
      rw [HRs.out] at h3
      have hlen : M + 1088 + 16 * j = R.length := by
        rw [← HRs.out, HY.out, List.length_append, List.length_append, chains_len, bes_len, ← HM.out]
      have hcv := conv_rd A R cc _ _ h3 (M + 1088 + 16 * j) hlen (by omega)
      clear hlen h3 ho
      go_wp2_with fail
      go_ret2
      exact ⟨rfl, hk.out.b⟩
end Go.Proofs.YtgonidjajmjniaaDoor

namespace Go.Proofs.YtgonidjajmjniaaDoor
open Go.RowKit Wr Sh
set_option linter.unusedVariables false
set_option maxRecDepth 100000

set_option maxHeartbeats 2000000 in
theorem sign_bad (sd : ByteArray) (n ix : Int) (m : ByteArray) (w : World) (h : (sd.size == 32) = false ∨ (sd.size == 32) = true ∧ decide (0 ≤ n ∧ n ≤ 6) = false) :
    Calls Tryd.prog 14 #[.string sd, .int .i64 n, .int .i64 ix, .string m] w fun e w' => e = .returned (.tuple #[.string ⟨#[]⟩, .int .i64 1]) ∧ w = w' := by
  rcases h with hsz | ⟨hsz, hht⟩
  · go_enter Tryd.func14, Tryd.ntmps14
    go_wp2_with (go_at_call 22; refine (isSeed_any sd _).mono ?_; rintro e w' ⟨rfl, rfl⟩; simp only [hsz])
    go_ret2
    exact ⟨rfl, rfl⟩
  · go_enter Tryd.func14, Tryd.ntmps14
    go_wp2_with (first
      | (go_at_call 22; refine (isSeed_any sd _).mono ?_; rintro e w' ⟨rfl, rfl⟩; simp only [hsz])
      | (go_at_call 23; refine (isHeight_any n _).mono ?_; rintro e w' ⟨rfl, rfl⟩; simp only [hht]))
    go_ret2
    exact ⟨rfl, rfl⟩
set_option maxHeartbeats 2000000 in
theorem sign_spent (sd : ByteArray) (h : Nat) (ix : Int) (m : ByteArray) (w : World) (h32 : sd.size = 32) (hh : h ≤ 6) (hix : decide (0 ≤ ix ∧ ix < ((2 ^ h : Nat) : Int)) = false) :
    Calls Tryd.prog 14 #[.string sd, .int .i64 (h : Int), .int .i64 ix, .string m] w fun e w' => e = .returned (.tuple #[.string ⟨#[]⟩, .int .i64 20]) ∧ w = w' := by
  have hsz : (sd.size == 32) = true := by rw [beq_iff_eq]; exact h32
  have hht : decide (0 ≤ (h : Int) ∧ (h : Int) ≤ 6) = true := by simp; omega
  clear h32
  go_enter Tryd.func14, Tryd.ntmps14
  go_wp2_with (first
    | (go_at_call 22; refine (isSeed_any sd _).mono ?_; rintro e w' ⟨rfl, rfl⟩; simp only [hsz])
    | (go_at_call 23; refine (isHeight_any (h : Int) _).mono ?_; rintro e w' ⟨rfl, rfl⟩; simp only [hht])
    | (go_at_call 27; refine (isIndex_any ix h _ hh).mono ?_; rintro e w' ⟨rfl, rfl⟩; simp only [hix]))
  go_ret2
  exact ⟨rfl, rfl⟩
set_option maxHeartbeats 2000000 in
theorem sign_limit (sd : ByteArray) (h : Nat) (ix : Int) (m : ByteArray) (w : World) (h32 : sd.size = 32) (hh : h ≤ 6) (hix : decide (0 ≤ ix ∧ ix < ((2 ^ h : Nat) : Int)) = true) (hm : 1048576 < m.size) :
    Calls Tryd.prog 14 #[.string sd, .int .i64 (h : Int), .int .i64 ix, .string m] w fun e w' => e = .returned (.tuple #[.string ⟨#[]⟩, .int .i64 4]) ∧ w = w' := by
  have hsz : (sd.size == 32) = true := by rw [beq_iff_eq]; exact h32
  have hht : decide (0 ≤ (h : Int) ∧ (h : Int) ≤ 6) = true := by simp; omega
  have hm' : (1048576 : Int) < (m.size : Int) := by omega
  clear h32
  go_enter Tryd.func14, Tryd.ntmps14
  go_wp2_with (first
    | (go_at_call 22; refine (isSeed_any sd _).mono ?_; rintro e w' ⟨rfl, rfl⟩; simp only [hsz])
    | (go_at_call 23; refine (isHeight_any (h : Int) _).mono ?_; rintro e w' ⟨rfl, rfl⟩; simp only [hht])
    | (go_at_call 27; refine (isIndex_any ix h _ hh).mono ?_; rintro e w' ⟨rfl, rfl⟩; simp only [hix]))
  go_ret2
  exact ⟨rfl, rfl⟩

/-- The values of the first chains at the top, out of a signature's digests. -/
def topsV (i : Int) (D X : List UInt8) (n : Nat) : List UInt8 := ((List.range n).map fun c : Nat => adv i (c : Int) ((sdig D c : Nat) : Int) (dig16 X c) (3 - sdig D c)).flatten
theorem topsV_succ (i : Int) (D X : List UInt8) (n : Nat) : topsV i D X (n + 1) = topsV i D X n ++ adv i (n : Int) ((sdig D n : Nat) : Int) (dig16 X n) (3 - sdig D n) := by
  unfold topsV; rw [List.range_succ, List.map_append, List.flatten_append]; simp
/-- The root that a signature's digests lead to. -/
def rootV (p : List UInt8) (h : Nat) (m : ByteArray) (i : Nat) (X : List UInt8) : List UInt8 := climbOf i (leafOf (topsV (i : Int) (digOf p (i : Int) m) X 68)) (X.drop 1088) h
/-- What Verify returns. -/
def verOf (p : List UInt8) (n : Int) (m : ByteArray) (sg : List UInt8) : Int × Nat :=
  if ¬ (0 ≤ n ∧ n ≤ 6) then (0, 1)
  else if 1048576 < m.size then (0, 4)
  else if (decInt sg).2.2 ≠ 0 then (0, (decInt sg).2.2)
  else if ¬ (0 ≤ (decInt sg).1 ∧ (decInt sg).1 < ((2 ^ n.toNat : Nat) : Int)) then (0, 2)
  else if (sg.drop (decInt sg).2.1).length ≠ (68 + n.toNat) * 16 then (0, 2)
  else if rootV p n.toNat m (decInt sg).1.toNat (sg.drop (decInt sg).2.1) = p then ((decInt sg).1, 0) else (0, 19)
set_option maxHeartbeats 2000000 in
theorem verify_arg (p : List UInt8) (n : Int) (m sg : ByteArray) (w : World) (h : ¬ (0 ≤ n ∧ n ≤ 6)) :
    Calls Tryd.prog 18 #[.agg (B8 p).toArray, .int .i64 n, .string m, .string sg] w fun e w' => e = .returned (.tuple #[.int .i64 0, .int .i64 1]) ∧ Below w.heap.size w w' := by
  have hht : decide (0 ≤ n ∧ n ≤ 6) = false := by rw [decide_eq_false_iff_not]; exact h
  have B1 := Lib.hid ((Below.refl w.heap.size w).alloc (Nat.le_refl _) (.cells (B8 p).toArray 23))
  clear h
  go_enter Tryd.func18, Tryd.ntmps18
  go_wp2_with (go_at_call 23; refine (isHeight_any n _).mono ?_; rintro e w' ⟨rfl, rfl⟩; simp only [hht])
  go_ret2
  exact ⟨rfl, B1.out⟩
set_option maxHeartbeats 2000000 in
theorem verify_limit (p : List UInt8) (h : Nat) (m sg : ByteArray) (w : World) (hh : h ≤ 6) (hm : 1048576 < m.size) :
    Calls Tryd.prog 18 #[.agg (B8 p).toArray, .int .i64 (h : Int), .string m, .string sg] w fun e w' => e = .returned (.tuple #[.int .i64 0, .int .i64 4]) ∧ Below w.heap.size w w' := by
  have hht : decide (0 ≤ (h : Int) ∧ (h : Int) ≤ 6) = true := by simp; omega
  have hm' : (1048576 : Int) < (m.size : Int) := by omega
  have B1 := Lib.hid ((Below.refl w.heap.size w).alloc (Nat.le_refl _) (.cells (B8 p).toArray 23))
  go_enter Tryd.func18, Tryd.ntmps18
  go_wp2_with (go_at_call 23; refine (isHeight_any (h : Int) _).mono ?_; rintro e w' ⟨rfl, rfl⟩; simp only [hht])
  go_ret2
  exact ⟨rfl, B1.out⟩
end Go.Proofs.YtgonidjajmjniaaDoor

namespace Go.Proofs.YtgonidjajmjniaaDoor
open Go.RowKit Wr Sh
set_option linter.unusedVariables false
set_option maxRecDepth 100000

theorem getInt_sz (s : ByteArray) (b : List UInt8) (hb : s.data.toList = b) (A : Option Addr) (c : Nat) (w : World) (hr : Rd w w.heap.size A (B8 b)) (hc : s.size ≤ c) (hl : s.size ≤ 1073741824) (I : Int) (U E : Nat) (hd : Hid (decInt b = (I, U, E))) :
    Calls Tryd.prog 37 #[.slice A s.size c] w fun e w' => e = .returned (.tuple #[.int .i64 I, .int .i64 (U : Int), .int .i64 (E : Int)]) ∧ w = w' := by
  have h := getInt_any A b c w w.heap.size hr (by rw [← hb, size_l]; exact hc) (by rw [← hb, size_l]; omega)
  rw [hd.out, ← hb, size_l] at h
  exact h

set_option maxHeartbeats 1000000 in
theorem verify_err (p : List UInt8) (h : Nat) (m sg : ByteArray) (w : World) (hh : h ≤ 6) (hm : m.size ≤ 1048576) (hsg : sg.size ≤ 1073741824) (I : Int) (U E : Nat) (hd : Hid (decInt sg.data.toList = (I, U, E))) (hE : E ≠ 0) :
    Calls Tryd.prog 18 #[.agg (B8 p).toArray, .int .i64 (h : Int), .string m, .string sg] w fun e w' => e = .returned (.tuple #[.int .i64 0, .int .i64 (E : Int)]) ∧ Below w.heap.size w w' := by
  obtain ⟨b, hb⟩ : ∃ b, b = sg.data.toList := ⟨_, rfl⟩
  have HG0 := Lib.hid hb
  rw [← hb] at hd
  have hht : decide (0 ≤ (h : Int) ∧ (h : Int) ≤ 6) = true := by simp; omega
  have hEb : ((E : Int) != 0) = true := by rw [bne_iff_ne]; omega
  have B1 := Lib.hid ((Below.refl w.heap.size w).alloc (Nat.le_refl _) (.cells (B8 p).toArray 23))
  have KP := Lib.hid (Blk.new w 23 (B8 p))
  have HSZ := Lib.hid (show (w.alloc (.cells (B8 p).toArray 23)).heap.size = w.heap.size + 1 by simp)
  clear hb hE
  go_enter Tryd.func18, Tryd.ntmps18
  go_wp2_with (first
    | (go_at_call 23; refine (isHeight_any (h : Int) _).mono ?_; rintro e w' ⟨rfl, rfl⟩; simp only [hht])
    | (with_reducible refine wpList_bytes_of rfl 9 54 5 (.tmp 25) rfl sg rfl Tryd.underlying9 Tryd.underlying54 Tryd.underlying5 ?_; intro c1 w1 hc1 hr1 hb1))
  rw [← HG0.out, HSZ.out] at hr1
  have B2 := Lib.hid (B1.out.trans (hb1.mono B1.out.size))
  have KP2 := Lib.hid (KP.out.below hb1 KP.out.lt)
  clear hb1
  refine (getInt_sz sg b HG0.out.symm _ c1 w1 hr1 hc1 hsg I U E hd).mono ?_; rintro e w2 ⟨rfl, rfl⟩
  go_wp2_with fail
  go_ret2
  exact ⟨rfl, B2.out⟩
theorem getInt_ok (s : ByteArray) (b : List UInt8) (hb : s.data.toList = b) (A : Option Addr) (c : Nat) (w : World) (hr : Rd w w.heap.size A (B8 b)) (hc : s.size ≤ c) (hl : s.size ≤ 1073741824) (I : Int) (U : Nat) (hd : Hid (decInt b = (I, U, 0))) :
    Calls Tryd.prog 37 #[.slice A s.size c] w fun e w' => e = .returned (.tuple #[.int .i64 I, .int .i64 (U : Int), .int .i64 0]) ∧ w = w' := getInt_sz s b hb A c w hr hc hl I U 0 hd

set_option maxHeartbeats 1000000 in
theorem verify_form (p : List UInt8) (h : Nat) (m sg : ByteArray) (w : World) (hh : h ≤ 6) (hm : m.size ≤ 1048576) (hsg : sg.size ≤ 1073741824) (I : Int) (U : Nat) (hd : Hid (decInt sg.data.toList = (I, U, 0))) (hU : U ≤ sg.size)
    (hbad : decide (0 ≤ I ∧ I < ((2 ^ h : Nat) : Int)) = false ∨ decide (0 ≤ I ∧ I < ((2 ^ h : Nat) : Int)) = true ∧ sg.size - U ≠ (68 + h) * 16) :
    Calls Tryd.prog 18 #[.agg (B8 p).toArray, .int .i64 (h : Int), .string m, .string sg] w fun e w' => e = .returned (.tuple #[.int .i64 0, .int .i64 2]) ∧ Below w.heap.size w w' := by
  obtain ⟨b, hb⟩ : ∃ b, b = sg.data.toList := ⟨_, rfl⟩
  have HG0 := Lib.hid hb
  rw [← hb] at hd
  have hht : decide (0 ≤ (h : Int) ∧ (h : Int) ≤ 6) = true := by simp; omega
  have B1 := Lib.hid ((Below.refl w.heap.size w).alloc (Nat.le_refl _) (.cells (B8 p).toArray 23))
  have KP := Lib.hid (Blk.new w 23 (B8 p))
  have HSZ := Lib.hid (show (w.alloc (.cells (B8 p).toArray 23)).heap.size = w.heap.size + 1 by simp)
  clear hb
  obtain ⟨s2, hs2⟩ : ∃ s2, s2 = sg.extract U sg.size := ⟨_, rfl⟩
  have hz2 : s2.size = sg.size - U := by rw [hs2, ByteArray.size_extract]; omega
  have HS2 := Lib.hid hs2
  clear hs2
  go_enter Tryd.func18, Tryd.ntmps18
  go_wp2_with (first
    | (go_at_call 23; refine (isHeight_any (h : Int) _).mono ?_; rintro e w' ⟨rfl, rfl⟩; simp only [hht])
    | (with_reducible refine wpList_bytes_of rfl 9 54 5 (.tmp 25) rfl sg rfl Tryd.underlying9 Tryd.underlying54 Tryd.underlying5 ?_; intro c1 w1 hc1 hr1 hb1))
  rw [← HG0.out, HSZ.out] at hr1
  have B2 := Lib.hid (B1.out.trans (hb1.mono B1.out.size))
  have KP2 := Lib.hid (KP.out.below hb1 KP.out.lt)
  clear hb1
  refine (getInt_ok sg b HG0.out.symm _ c1 w1 hr1 hc1 hsg I U hd).mono ?_; rintro e w2 ⟨rfl, rfl⟩
  rcases hbad with hb1 | ⟨hb1, hb2⟩
  · go_wp2_with (first
      | (with_reducible refine wpList_bytes_of rfl 9 54 5 (.tmp 36) rfl (sg.extract U sg.size) rfl Tryd.underlying9 Tryd.underlying54 Tryd.underlying5 ?_; rw [← HS2.out]; intro c3 w3 hc3 hr3 hb3)
      | (go_at_call 27; refine (isIndex_any I h _ hh).mono ?_; rintro e w' ⟨rfl, rfl⟩; simp only [hb1]))
    go_ret2
    exact ⟨rfl, B2.out.trans (hb3.mono B2.out.size)⟩
  · have hne : ((s2.size : Int) != (68 + (h : Int)) * 16) = true := by rw [bne_iff_ne]; omega
    have HZ := Lib.hid hz2
    clear hz2 hb2
    go_wp2_with (first
      | (with_reducible refine wpList_bytes_of rfl 9 54 5 (.tmp 36) rfl (sg.extract U sg.size) rfl Tryd.underlying9 Tryd.underlying54 Tryd.underlying5 ?_; rw [← HS2.out]; intro c3 w3 hc3 hr3 hb3)
      | (go_at_call 27; refine (isIndex_any I h _ hh).mono ?_; rintro e w' ⟨rfl, rfl⟩; simp only [hb1]))
    go_ret2
    exact ⟨rfl, B2.out.trans (hb3.mono B2.out.size)⟩
end Go.Proofs.YtgonidjajmjniaaDoor

namespace Go.Proofs.YtgonidjajmjniaaDoor
open Go.RowKit Wr Sh
set_option linter.unusedVariables false
set_option maxRecDepth 100000

theorem eqi23 (d e : List UInt8) (hd : d.length = 16) (he : e.length = 16) (w : World) : (Op.equalIn 10000 23 (.agg (B8 d).toArray) (.agg (B8 e).toArray)).run Tryd.prog w = .ok (d == e) w := by
  have h := eql23 d e hd he w
  rw [run_eql_struct] at h
  cases hq : (Op.equalIn 10000 23 (.agg (B8 d).toArray) (.agg (B8 e).toArray)).run Tryd.prog w with
  | ok b w' =>
    rw [hq] at h
    simp only [Result.andThen_ok] at h
    injection h with h1 h2
    injection h1 with h1
    rw [h1, h2]
  | halt x w' => rw [hq] at h; simp [Result.andThen] at h
theorem exec_load_row {P : Program} (o : Oper) (ev : Operand → Value) (ty : TypeId) (x : Operand) (ho : o.op = .load ty x) (ad : Addr) (hx : ev x = .pointer (some ad)) (cs : List Value) (W : World) (hl : (loadVar ty ad).run P W = .ok (.agg cs.toArray) W) : (execOp ev o).run P W = .ok (.value (.agg cs.toArray)) W := by
  unfold execOp
  simp only [ho, hx, Instr.loadAt, Instr.sureAddr, Sem.run_bind, Sem.run_pure, Result.andThen_ok, hl]

def verRes (q : Bool) (ix : Nat) : Value := match q with | true => .tuple #[.int .i64 (ix : Int), .int .i64 0] | false => .tuple #[.int .i64 0, .int .i64 19]

set_option maxHeartbeats 4000000 in
theorem verify_root (p : List UInt8) (h ix : Nat) (m sg : ByteArray) (w : World) (hp : p.length = 16) (hh : h ≤ 6) (hix : ix < 2 ^ h) (hm : m.size ≤ 1048576) (hsg : sg.size ≤ 1073741824) (U : Nat) (hd : Hid (decInt sg.data.toList = ((ix : Int), U, 0))) (hU : U ≤ sg.size)
    (hlen : sg.size - U = (68 + h) * 16) (ht : Tab 1 w) (Rt : List UInt8) (hRt : Hid (Rt = rootV p h m ix (sg.data.toList.drop U))) :
    Calls Tryd.prog 18 #[.agg (B8 p).toArray, .int .i64 (h : Int), .string m, .string sg] w fun e w' => e = .returned (verRes (Rt == p) ix) ∧ Below w.heap.size w w' := by
  obtain ⟨i0, hi0, hz0, hz1, hz2⟩ := info_parts Tryd.info5
  have HI5 := Lib.hid (And.intro hi0 (And.intro hz0 (And.intro hz1 hz2)))
  have hp6 : 2 ^ h ≤ 64 := Nat.le_trans (Nat.pow_le_pow_right (by decide) hh) (by decide)
  have hix6 : ix < 64 := by omega
  obtain ⟨b, hb⟩ : ∃ b, b = sg.data.toList := ⟨_, rfl⟩
  have HG0 := Lib.hid hb
  rw [← hb] at hd hRt
  have hht : decide (0 ≤ (h : Int) ∧ (h : Int) ≤ 6) = true := by simp; omega
  have hin : decide (0 ≤ (ix : Int) ∧ (ix : Int) < ((2 ^ h : Nat) : Int)) = true := by rw [decide_eq_true_eq]; exact ⟨by omega, Int.ofNat_lt.2 hix⟩
  have B1 := Lib.hid ((Below.refl w.heap.size w).alloc (Nat.le_refl _) (.cells (B8 p).toArray 23))
  have KP := Lib.hid (Blk.new w 23 (B8 p))
  have HSZ := Lib.hid (show (w.alloc (.cells (B8 p).toArray 23)).heap.size = w.heap.size + 1 by simp)
  obtain ⟨s2, hs2⟩ : ∃ s2, s2 = sg.extract U sg.size := ⟨_, rfl⟩
  have hz2 : s2.size = sg.size - U := by rw [hs2, ByteArray.size_extract]; omega
  have hza : s2.size ≤ (68 + h) * 16 := by omega
  have hzb : (68 + h) * 16 ≤ s2.size := by omega
  obtain ⟨X, hX⟩ : ∃ X, X = s2.data.toList := ⟨_, rfl⟩
  have HXb := Lib.hid (show X = b.drop U by rw [hX, hs2, hb]; exact Lib.extract_to_end sg U)
  have HXl := Lib.hid (show s2.size = X.length by rw [hX, size_l])
  have HX := Lib.hid hX
  have HS2 := Lib.hid hs2
  have hneL : ((s2.size : Int) != (68 + (h : Int)) * 16) = false := by rw [bne_eq_false_iff_eq]; omega
  have HOI := Lib.hid (show okInt (ix : Int) from ⟨by omega, by omega⟩)
  have HPl := Lib.hid hp
  have HT := Lib.hid ht
  have HIX := Lib.hid hix
  obtain ⟨Dg, hDg⟩ : ∃ Dg, Dg = digOf p (ix : Int) m := ⟨_, rfl⟩
  have HDg := Lib.hid hDg
  have HDgl := Lib.hid (show Dg.length = 16 by rw [hDg]; exact dof_len _ _)
  clear hb hs2 hX hlen hp ht hix hz2 hi0 hz0 hz1 hDg
  go_enter Tryd.func18, Tryd.ntmps18
  go_wp2_with (first
    | (go_at_call 23; refine (isHeight_any (h : Int) _).mono ?_; rintro e w' ⟨rfl, rfl⟩; simp only [hht])
    | (with_reducible refine wpList_bytes_of rfl 9 54 5 (.tmp 25) rfl sg rfl Tryd.underlying9 Tryd.underlying54 Tryd.underlying5 ?_; intro c1 w1 hc1 hr1 hb1))
  rw [← HG0.out, HSZ.out] at hr1
  have B2 := Lib.hid (B1.out.trans (hb1.mono B1.out.size))
  have KP2 := Lib.hid (KP.out.below hb1 KP.out.lt)
  clear hb1
  refine (getInt_ok sg b HG0.out.symm _ c1 w1 hr1 hc1 hsg (ix : Int) U hd).mono ?_; rintro e w2 ⟨rfl, rfl⟩
  clear hr1
  go_wp2_with (first
    | (with_reducible refine wpList_bytes_of rfl 9 54 5 (.tmp 36) rfl (sg.extract U sg.size) rfl Tryd.underlying9 Tryd.underlying54 Tryd.underlying5 ?_; rw [← HS2.out]; intro c3 w3 hc3 hr3 hb3; rw [← HX.out] at hr3; have B3 := Lib.hid (B2.out.trans (hb3.mono B2.out.size)); have KP3 := Lib.hid (KP2.out.below hb3 KP2.out.lt); have HR3 := Lib.hid hr3; have HLP := Lib.hid KP3.out.at; clear hr3 hb3)
    | (go_at_call 27; refine (isIndex_any (ix : Int) h _ hh).mono ?_; rintro e w' ⟨rfl, rfl⟩; simp only [hin])
    | (with_reducible refine wpList_load_at rfl 23 (.tmp 4) rfl ⟨w.heap.size, 0, none⟩ rfl (B8 p) (.array 16 5) HLP.out Tryd.underlying23 rfl (size23 _ HPl.out) ?_))
  refine (digest_any p (ix : Int) m _ HPl.out HOI.out (by omega) (HT.out.below B3.out HT.out.1) Dg HDg).mono ?_; rintro e w4 ⟨rfl, hb4⟩
  have B4 := Lib.hid (B3.out.trans (hb4.mono B3.out.size))
  have KP4 := Lib.hid (KP3.out.below hb4 KP3.out.lt)
  have HR4 := Lib.hid ((HR3.out.below hb4).more hb4.size)
  clear hb4
  go_wp2_with fail
  refine (digits_any Dg w4 HDgl.out).mono ?_; rintro e wL ⟨gD, rfl, hgD, hgl, hb5⟩
  have BL := Lib.hid (B4.out.trans (hb5.mono B4.out.size))
  have KPL := Lib.hid (KP4.out.below hb5 KP4.out.lt)
  have HRL := Lib.hid ((HR4.out.below hb5).more hb5.size)
  have KDL := Lib.hid hgD
  clear hgD hgl hb5 B4 KP4 HR4 HR3 KP3 B3 HLP KP2 B2 KP B1
  go_wp2_with fail
  go_loopw [14, 56] (fun s14 s56 wr => ∃ c : Nat, c ≤ 68 ∧ s56 = .int .i64 (c : Int) ∧ Hid (wr.ownsRow wL.heap.size 5 1 s14 (16 * c) (B8 (topsV (ix : Int) Dg X c))) ∧ Hid (Below wL.heap.size wL wr))
    (fun _ s56 _ => 68 - (intOf s56).toNat)
  case atStart => exact ⟨0, by omega, rfl, Lib.hid (World.ownsRow_nil _ _ _ _), Lib.hid (Below.refl _ _)⟩
  case round =>
  obtain ⟨c, hc, rfl, ho, hb⟩ := hrel
  obtain ⟨T, hTT⟩ : ∃ T, T = topsV (ix : Int) Dg X c := ⟨_, rfl⟩
  rw [← hTT] at ho
  by_cases hlt : c < 68
  · obtain ⟨t, ht⟩ : ∃ t, t = sdig Dg c := ⟨_, rfl⟩
    have ht3 : t ≤ 3 := by rw [ht]; exact sdig_le _ _
    obtain ⟨D0, hD0⟩ : ∃ D, D = dig16 X c := ⟨_, rfl⟩
    obtain ⟨D, hD⟩ : ∃ D, D = adv (ix : Int) (c : Int) (t : Int) D0 (3 - t) := ⟨_, rfl⟩
    have hl0 : D0.length = 16 := by rw [hD0]; unfold dig16; have := HXl.out; simp; omega
    have hl3 : D.length = 16 := by rw [hD]; exact adv_len _ _ _ _ hl0 _
    have cD : wr.cell? ⟨gD, c, none⟩ = some (.int .i64 (t : Int)) := by rw [(KDL.out.below hb.out KDL.out.lt).cell, ht]; exact NI_get Dg c hlt
    have HTT := Lib.hid (show T ++ D = topsV (ix : Int) Dg X (c + 1) by rw [topsV_succ, hTT, hD, hD0, ht])
    have H0 := Lib.hid (show D0 = (X.drop (16 * c)).take 16 from hD0)
    have H3 := Lib.hid hD
    have L0 := Lib.hid hl0
    have L3 := Lib.hid hl3
    have HOC := Lib.hid (show okInt (c : Int) from ⟨by omega, by omega⟩)
    clear hD0 hD hl0 hl3 hTT ht
    go_wp2_with fail
    refine (digestAt_any _ X c3 _ wL.heap.size (HRL.out.below hb.out) (by rw [← HXl.out]; exact hc3) (by rw [← HXl.out]; omega) hb.out.size s2.size c HXl.out (by omega) D0 H0).mono ?_; rintro e w6 ⟨rfl, hb6⟩
    have B6 := Lib.hid (hb.out.trans (hb6.mono hb.out.size))
    have o6 := Lib.hid (own_below ho.out hb6)
    clear hb6
    go_wp2_with fail
    refine (advance_any D0 (ix : Int) (c : Int) (t : Int) 3 (3 - t) _ L0.out HOI.out HOC.out (by omega) (Lib.hid (by omega)) (by omega) (HT.out.below (BL.out.trans (B6.out.mono BL.out.size)) HT.out.1) D H3).mono ?_; rintro e w7 ⟨rfl, hb7⟩
    have B7 := Lib.hid (B6.out.trans (hb7.mono B6.out.size))
    have o7 := Lib.hid (own_below o6.out hb7)
    clear hb7
    obtain ⟨W8, hW8⟩ : ∃ W, W = (w7.alloc (.cells Z16.toArray 23)).setRow w7.heap.size (B8 D).toArray := ⟨_, rfl⟩
    have b8 : Below w7.heap.size w7 W8 := by rw [hW8]; exact belowRow ((Below.refl _ _).alloc (Nat.le_refl _) _) (Nat.le_refl _) _
    have B8' := Lib.hid (B7.out.trans (b8.mono B7.out.size))
    have o8 := Lib.hid (own_below o7.out b8)
    have D8 := Lib.hid (show Blk W8 w7.heap.size 23 (B8 D) by rw [hW8]; exact (Blk.new w7 23 Z16).row _)
    have HW8 := Lib.hid hW8
    have HL := Lib.hid (show (B8 D).length = 16 * 1 by rw [B8_len, L3.out])
    have hsz8 : wL.heap.size ≤ W8.heap.size := B8'.out.size
    have hZ := hZ16
    clear hW8 b8
    go_wp2_with (first
      | (with_reducible refine wpList_store_row rfl 23 (.tmp 17) (.tmp 67) rfl w7.heap.size (B8 D).toArray rfl rfl 23 _ (heap_alloc_new w7 _) (size23' _ L3.out) (Z16_size _ L3.out) (one8 _) ?_; rw [← HW8.out])
      | (at_builtin; refine wpList_append_own _ rfl (.tmp 68) (.tmp 69) 54 rfl wL.heap.size 5 i0 (.int .u8 0) 1 1 Tryd.underlying54 HI5.out.1 HI5.out.2.1 HI5.out.2.2.1 HI5.out.2.2.2 rfl (by decide) u14 (16 * c) (B8 T) rfl o8.out ⟨w7.heap.size, 0, none⟩ 16 16 (B8 D) rfl HL.out D8.out.at (B8_one _) (by unfold maxLen; omega) (by omega) hsz8 ?_; intro v9 w9 o9 hg9 _))
    have k9 := Lib.hid (B8'.out.grown hg9 B8'.out.size (fun q hq => (o8.out.lt q hq).1))
    have o10 := Lib.hid (show w9.ownsRow wL.heap.size 5 1 v9 (16 * (c + 1)) (B8 (topsV (ix : Int) Dg X (c + 1))) by rw [← HTT.out, B8_append T]; exact o9)
    clear o9 hg9
    go_wp2_with fail
    go_roundw
    case rel => exact ⟨c + 1, by omega, by go_num, o10, k9⟩
    case measure => simp only [intOf]; omega
  · obtain rfl : c = 68 := by omega
    obtain ⟨A, cc, rfl, h1, h2, h3⟩ := own_form ho.out
    have HRT := Lib.hid h3
    have KPr := Lib.hid (KPL.out.below hb.out KPL.out.lt)
    have HTl := Lib.hid (show 16 * 68 = T.length by have := ho.out.1; rw [B8_len] at this; omega)
    obtain ⟨Lf, hLf⟩ : ∃ Lf, Lf = leafOf T := ⟨_, rfl⟩
    obtain ⟨X2, hX2⟩ : ∃ X2, X2 = X.drop 1088 := ⟨_, rfl⟩
    have HLf := Lib.hid (Lib.hid hLf)
    have HLfl := Lib.hid (show Lf.length = 16 by rw [hLf]; exact dof_len _ _)
    have HRoot := Lib.hid (show Rt = climbOf ix Lf X2 h by rw [hRt.out, ← HXb.out, hLf, hX2, hTT, HDg.out]; rfl)
    have HRtl := Lib.hid (show Rt.length = 16 by rw [HRoot.out]; exact climb_len _ _ _ HLfl.out _)
    have HX2l := Lib.hid (show 16 * h = X2.length ∧ X2.length = 16 * h by rw [hX2, List.length_drop]; have := HXl.out; omega)
    have HC3 := Lib.hid (show 16 * h ≤ c3 - 1088 by omega)
    have hA2 : ∃ A2 : Option Addr, Rd wL wL.heap.size A2 (B8 X2) ∧ ∀ W : World, (Instr.sliceAt 54 (.slice (some ⟨w1.heap.size, 0, none⟩) s2.size c3) (some (.int .i64 1088)) none none).run Tryd.prog W = .ok (.slice A2 (16 * h) (c3 - 1088)) W := by
      refine ⟨if c3 = 1088 then some ⟨w1.heap.size, 0, none⟩ else (some (⟨w1.heap.size, 0, none⟩ : Addr)).map (·.add 1088), ?_, fun W => ?_⟩
      · have := HRL.out.cut 1088 c3 (by rw [B8_len, ← HXl.out]; omega) (by rw [B8_len, ← HXl.out]; exact hc3)
        rw [hX2]
        unfold B8 at this ⊢
        rw [List.map_drop]; exact this
      · have hu : Tryd.prog.underlying 54 = some (.slice (Tryd.prog.elem 54)) := by kernel_rfl
        have he : Tryd.prog.elem 54 = 5 := by kernel_rfl
        have h5 : (sizeOf 5).run Tryd.prog W = .ok 1 W := by kernel_rfl
        rw [run_sliceAt_slice W 54 _ _ _ _ hu, run_slice_l W 54 (some ⟨w1.heap.size, 0, none⟩) s2.size c3 hu .i64 1088 (by omega) (by omega), he, h5]
        simp only [Result.andThen, sliced]
        have e1 : s2.size - (1088 : Int).toNat = 16 * h := by omega
        rw [e1]
        by_cases hc1 : c3 = 1088
        · simp [hc1]
        · simp [hc1, Addr.add_lit]
    obtain ⟨A2, hA2r, hsl⟩ := hA2
    have HX2 := Lib.hid hA2r
    clear hA2r hTT hLf hX2 h3 ho KPL
    go_wp2_with fail
    refine wp_region_held (S := fun W => Blk W w.heap.size 23 (B8 p)) (by kernel_rfl) ?_
    change wpAnyH _ _ _ _ _ _ _ _ (World.drew wr)
    have hS0 : Blk (World.drew wr) w.heap.size 23 (B8 p) := KPr.out
    have BD := Lib.hid hb.out.drew
    have HRt := Lib.hid (show Rd (World.drew wr) (World.drew wr).heap.size A (B8 T) from HRT.out)
    generalize World.drew wr = Wd at hS0 BD HRt ⊢
    refine wpAnyH_take (i := 0) (oi := { dst := some 72, op := Op.move (Operand.tmp 14), type := 54, pos := "sign.go:98", after := #[], guard := none }) (v := .slice A (16 * 68) cc) rfl (by kernel_rfl) (by kernel_rfl) (by kernel_rfl) (fun _ _ _ h => h) (Or.inl ⟨by rfl, fun W hW => ?y1⟩) hS0 ?_
    case y1 => go_simp
    try dsimp only [Act.put]
    try simp only [List.setIfInBounds_toArray, List.set_cons_zero, List.set_cons_succ]
    refine wpAnyH_take (i := 2) (oi := { dst := some 74, op := Op.move (Operand.tmp 10), type := 3, pos := "sign.go:98", after := #[], guard := none }) (v := .int .i64 (ix : Int)) rfl (by kernel_rfl) (by kernel_rfl) (by kernel_rfl) (fun _ _ _ h => h) (Or.inl ⟨by rfl, fun W hW => ?y2⟩) hS0 ?_
    case y2 => go_simp
    try dsimp only [Act.put]
    try simp only [List.setIfInBounds_toArray, List.set_cons_zero, List.set_cons_succ]
    refine wpAnyH_take (i := 3) (oi := { dst := some 75, op := Op.move (Operand.tmp 13), type := 54, pos := "sign.go:98", after := #[], guard := none }) (v := .slice (some ⟨w1.heap.size, 0, none⟩) s2.size c3) rfl (by kernel_rfl) (by kernel_rfl) (by kernel_rfl) (fun _ _ _ h => h) (Or.inl ⟨by rfl, fun W hW => ?y3⟩) hS0 ?_
    case y3 => go_simp
    try dsimp only [Act.put]
    try simp only [List.setIfInBounds_toArray, List.set_cons_zero, List.set_cons_succ]
    refine wpAnyH_take (i := 4) (oi := { dst := some 76, op := Op.slice 54 (Operand.tmp 75) (some (Operand.const (Value.int IntKind.i64 1088))) none none, type := 54, pos := "sign.go:98", after := #[{ on := 3, ground := Ground.data }], guard := none }) (v := .slice A2 (16 * h) (c3 - 1088)) rfl (by kernel_rfl) (by kernel_rfl) (by kernel_rfl) (fun _ _ _ h => h) (Or.inl ⟨by rfl, fun W hW => by have hcl := hsl W; go_simp⟩) hS0 ?_
    try dsimp only [Act.put]
    try simp only [List.setIfInBounds_toArray, List.set_cons_zero, List.set_cons_succ]
    refine wpAnyH_take (i := 6) (oi := { dst := some 78, op := Op.load 23 (Operand.tmp 4), type := 23, pos := "sign.go:98", after := #[], guard := none }) (v := .agg (B8 p).toArray) rfl (by kernel_rfl) (by kernel_rfl) (by kernel_rfl) (fun _ _ _ h => h) (Or.inl ⟨by rfl, fun W hW => exec_load_row _ _ 23 (.tmp 4) rfl ⟨w.heap.size, 0, none⟩ rfl (B8 p) W (run_loadVar_at W _ 23 (B8 p) (.array 16 5) (Blk.at hW) Tryd.underlying23 rfl (size23 _ HPl.out))⟩) hS0 ?_
    try dsimp only [Act.put]
    try simp only [List.setIfInBounds_toArray, List.set_cons_zero, List.set_cons_succ]
    refine wpAnyH_ready (rs := [1]) (by kernel_rfl) (by simp) ?_
    refine AllReadyH.cons (o := { dst := some 73, op := Op.call { callee := Callee.value (Operand.func 40), args := #[Operand.tmp 72], argTypes := #[54] }, type := 23, pos := "sign.go:98", after := #[{ on := 0, ground := Ground.data }], guard := none }) rfl (fun K hK => ?_) AllReadyH.nil
    rw [if_pos (by rfl)]
    go_simp
    refine (leaf_rd A T cc (16 * 68) Wd HRt.out HTl.out (by omega) (by omega) (HT.out.below (BL.out.trans (BD.out.mono BL.out.size)) HT.out.1) Lf HLf.out).mono ?_; rintro e w6 ⟨rfl, hb6⟩
    have hS6 := hS0.below hb6 hS0.lt
    have B6 := Lib.hid (BD.out.trans (hb6.mono BD.out.size))
    clear hb6
    go_wp2_with fail
    refine hK.out _ _ hS6 (fun _ => ?_)
    clear hK K
    try dsimp only [Act.put]
    try simp only [List.setIfInBounds_toArray, List.set_cons_zero, List.set_cons_succ]
    refine wpAnyH_ready (rs := [5]) (by kernel_rfl) (by simp) ?_
    refine AllReadyH.cons (o := { dst := some 77, op := Op.call { callee := Callee.value (Operand.func 39), args := #[Operand.tmp 73, Operand.tmp 74, Operand.tmp 76], argTypes := #[23, 3, 54] }, type := 23, pos := "sign.go:98", after := #[{ on := 1, ground := Ground.data }, { on := 2, ground := Ground.data }, { on := 4, ground := Ground.data }, { on := 1, ground := Ground.chain }], guard := none }) rfl (fun K hK => ?_) AllReadyH.nil
    rw [if_pos (by rfl)]
    go_simp
    refine (climb_any Lf X2 ix h A2 (c3 - 1088) (16 * h) w6 HLfl.out HX2l.out.1 HX2l.out.2 hh hix6 ((HX2.out.below B6.out).more B6.out.size) HC3.out (HT.out.below (BL.out.trans (B6.out.mono BL.out.size)) HT.out.1) Rt HRoot).mono ?_; rintro e w7 ⟨rfl, hb7⟩
    have hS7 := hS6.below hb7 hS6.lt
    have B7 := Lib.hid (B6.out.trans (hb7.mono B6.out.size))
    clear hb7
    go_wp2_with fail
    refine hK.out _ _ hS7 (fun _ => ?_)
    clear hK K
    try dsimp only [Act.put]
    try simp only [List.setIfInBounds_toArray, List.set_cons_zero, List.set_cons_succ]
    refine wpAnyH_ready (rs := [7]) (by kernel_rfl) (by simp) ?_
    refine AllReadyH.cons (o := { dst := some 79, op := Op.binOp BinOp.neq 23 (Operand.tmp 77) (Operand.tmp 78) 23, type := 4, pos := "sign.go:98", after := #[{ on := 5, ground := Ground.data }, { on := 6, ground := Ground.data }], guard := none }) rfl (fun K hK => ?_) AllReadyH.nil
    rw [if_pos (by rfl)]
    have hneq := eqi23 Rt p HRtl.out HPl.out w7
    go_simp
    refine hK.out _ _ hS7 (fun _ => ?_)
    clear hK K
    try dsimp only [Act.put]
    try simp only [List.setIfInBounds_toArray, List.set_cons_zero, List.set_cons_succ]
    refine wpAnyH_done (by kernel_rfl) ?_ _
    try dsimp only [Act.put]
    try simp only [List.setIfInBounds_toArray, List.set_cons_zero, List.set_cons_succ]
    obtain ⟨q, hq⟩ : ∃ q, q = (Rt == p) := ⟨_, rfl⟩
    rw [← hq]
    have HQ := Lib.hid hq
    clear hq
    cases q with
    | true =>
      go_wp2_with fail
      go_ret2
      exact ⟨by rw [← HQ.out]; rfl, BL.out.trans (B7.out.mono BL.out.size)⟩
    | false =>
      go_wp2_with fail
      go_ret2
      exact ⟨by rw [← HQ.out]; rfl, BL.out.trans (B7.out.mono BL.out.size)⟩
end Go.Proofs.YtgonidjajmjniaaDoor

