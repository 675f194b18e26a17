/-
  Contracts and words of several parts of the program (Rn, Pl, Pn, Pq), one after the other.
  Conditions: those that each says.
-/
import Derived.Test.YtpbhgebblpdmnaaDoorZ
import Derived.Test.YtpbhgebblpdmnaaDoorRe
import Derived.Deep.AppendLies
namespace Go.Proofs.YtpbhgebblpdmnaaDoor
open Go.RowKit Wr Src
set_option linter.unusedVariables false
set_option maxRecDepth 100000
theorem numeral_val (s : St) (lo hi : Nat) : 0 ≤ (s.numeral lo hi).1 ∧ (s.numeral lo hi).1 ≤ (hi : Int) := by
 unfold St.numeral
 split
 ·
  exact ⟨by simp, by simp⟩
 ·
  split
  ·
   exact ⟨by simp, by simp⟩
  ·
   rename_i h
   dsimp only
   omega
section
variable {B : Nat} {w : World} {g : Nat} {T : Str} {E : Nat} {s : St}
set_option maxHeartbeats 2000000 in
theorem number_any (h : RS B w g T E s) (wd ps : Str) (lo hi : Nat) (hh : hi ≤ 1000) : Calls Tryd.prog 61 #[pt g, SV wd ps lo hi] w fun en w' => en = .returned (iv (s.number lo hi).1) ∧ RS B w' g T E (s.number lo hi).2 ∧ Kp (fun k => k = g) w w' := by
 have HG := Lh h.lt
 have HX := Lh (Blk.new w 82 [sv wd, sv ps, nv lo, nv hi])
 have HW := Lh ((Below.refl w.heap.size w).alloc (Nat.le_refl _) (.cells [sv wd, sv ps, nv lo, nv hi].toArray 82))
 have H1 := Lh (h.below HW.out)
 change Hid (Blk (w.alloc (.cells #[sv wd, sv ps, nv lo, nv hi] 82)) w.heap.size 82 [sv wd, sv ps, nv lo, nv hi]) at HX
 change Hid (Below w.heap.size w (w.alloc (.cells #[sv wd, sv ps, nv lo, nv hi] 82))) at HW
 change Hid (RS B (w.alloc (.cells #[sv wd, sv ps, nv lo, nv hi] 82)) g T E s) at H1
 by_cases ht : s.look = [45]
 ·
  have HE := Lh (show s.number lo hi = (- (s.adv.numeral lo hi).1, (s.adv.numeral lo hi).2) by unfold St.number; rw [if_pos ht])
  have HV := Lh (numeral_val s.adv lo hi)
  have HS := Lh (skips_yes H1.out ht (by simp))
  have HN := Lh (fun W (hW : RS B W g T E s.adv) => numeral_any hW wd ps lo hi)
  clear h H1 ht
  go_enter Tryd.func61, Tryd.ntmps61
  go_upto_region 1 with fail
  generalize w.alloc (.cells #[sv wd, sv ps, nv lo, nv hi] 82) = w0 at HX HW HS ⊢
  go_wp2_with fail
  refine HS.out.mono ?_
  rintro e w1 ⟨rfl, h1, k1⟩
  have b1 := Lh (k1.blk HX.out (by have := HG.out; omega))
  have K1 := Lh ((Kp.of_below' HW.out).trans k1 (fun _ _ h => h))
  clear k1
  go_wp2_with (first | (with_reducible refine wpList_load_cells rfl 82 4 size82 (.tmp 3) rfl ⟨w.heap.size, 0, none⟩ rfl [sv wd, sv ps, nv lo, nv hi] rfl _ Tryd.underlying82 rfl b1.out.at ?_))
  refine (HN.out _ h1).mono ?_
  rintro e w2 ⟨rfl, h2, k2⟩
  obtain ⟨v, hv⟩ : ∃ v, v = (s.adv.numeral lo hi).1 := ⟨_, rfl⟩
  obtain ⟨v0, v1⟩ := HV.out
  have HE1 := Lh (congrArg Prod.fst HE.out); have HE2 := Lh (congrArg Prod.snd HE.out)
  dsimp only at HE1 HE2
  rw [← hv] at v0 v1 HE1 ⊢
  have hhI : (hi : Int) ≤ 1000 := by omega
  clear hv HE HV
  go_wp2_with fail
  go_ret
  exact ⟨by rw [HE1.out]; rfl, by rw [HE2.out]; exact h2, K1.out.trans k2 (fun _ _ h => h)⟩
 ·
  have HE := Lh (show s.number lo hi = s.numeral lo hi by unfold St.number; rw [if_neg ht])
  have HS := Lh (skips_no H1.out ht)
  have HN := Lh (numeral_any H1.out wd ps lo hi)
  clear h H1 ht
  go_enter Tryd.func61, Tryd.ntmps61
  go_upto_region 1 with fail
  generalize w.alloc (.cells #[sv wd, sv ps, nv lo, nv hi] 82) = w0 at HX HW HS HN ⊢
  go_wp2_with fail
  refine HS.out.mono ?_
  rintro e w1 ⟨rfl, rfl⟩
  go_wp2_with (first | (with_reducible refine wpList_load_cells rfl 82 4 size82 (.tmp 3) rfl ⟨w.heap.size, 0, none⟩ rfl [sv wd, sv ps, nv lo, nv hi] rfl _ Tryd.underlying82 rfl HX.out.at ?_))
  refine HN.out.mono ?_
  rintro e w2 ⟨rfl, h2, k2⟩
  go_wp2_with fail
  go_ret
  exact ⟨by rw [HE.out]; rfl, by rw [HE.out]; exact h2, (Kp.of_below' HW.out).trans k2 (fun _ _ h => h)⟩
end
end Go.Proofs.YtpbhgebblpdmnaaDoor
namespace Go.Proofs.YtpbhgebblpdmnaaDoor
open Go.RowKit Wr Src
set_option linter.unusedVariables false
set_option maxRecDepth 100000
theorem cat3 (a b : Str) : (⟨a.toArray⟩ : ByteArray) ++ (⟨#[46]⟩ ++ ⟨b.toArray⟩) = ⟨(a ++ 46 :: b).toArray⟩ := by
 apply ByteArray.ext
 simp
def RdOut (B : Nat) (w : World) (g : Nat) (T : Str) (E : Nat) (F : Nd → St → Prop) (en : Ending) (w' : World) : Prop :=
 ∃ n s' cs, en = .returned (.agg cs.toArray) ∧ F n s' ∧ RS B w' g T E s' ∧ NV w' (fun k => w.heap.size ≤ k) n cs ∧ Kp (fun k => k = g) w w'
section
variable {B : Nat} {w : World} {g : Nat} {T : Str} {E : Nat} {s : St}
theorem name_len (h : RS B w g T E s) : s.name.1.length ≤ 4294967295 := by
 unfold St.name St.getText
 split
 ·
  rename_i hc
  have h0 := cls_ne hc (by omega)
  obtain ⟨he, p, R, hs⟩ := mu_look h0
  obtain ⟨h1, _, _⟩ := lxi_next h.x hs
  have := h.l
  dsimp only; omega
 ·
  simp
theorem fine_small {k : Int} {t : Str} {z : Int} (h1 : 0 ≤ k) (h2 : k ≤ 1000) (h3 : -1000 ≤ z) (h4 : z ≤ 1000) (h5 : t.length ≤ 8589934592) : Fine k t z := ⟨by omega, by omega, by omega, by omega, h5⟩
set_option maxHeartbeats 4000000 in
theorem place_any (h : RS B w g T E s) : Calls Tryd.prog 63 #[pt g] w (RdOut B w g T E (fun n s' => (n, s') = s.place)) := by
 have hl1 := name_len h
 have HG := Lh h.lt
 obtain ⟨wb, hwb⟩ : ∃ wb, wb = w.heap.size := ⟨_, rfl⟩
 have HWB := Lh hwb
 have HWb := Lh hwb.symm
 have z1 := zero25
 obtain ⟨w0, hw0⟩ : ∃ w0, w0 = w.alloc (.cells #[.int .i64 0, .string ⟨#[]⟩, .int .i64 0, .slice none 0 0] 25) := ⟨_, rfl⟩
 have Z0 := Lh (show Blk w0 wb 25 [.int .i64 0, .string ⟨#[]⟩, .int .i64 0, .slice none 0 0] by rw [hw0, hwb]; exact Blk.new w _ _)
 have L0 := Lh (show Below w.heap.size w w0 by rw [hw0]; exact (Below.refl _ _).alloc (Nat.le_refl _) _)
 have S0 := Lh (show w0.heap.size = wb + 1 by rw [hw0, hwb]; simp)
 have R0 := Lh (h.below L0.out)
 have HW0 := Lh hw0
 have HN1 := Lh (name_any R0.out)
 clear h hwb hw0
 have HG' : Hid (g < wb) := Lh (by have := HG.out; have := HWB.out; omega)
 clear HG
 have HG := HG'
 clear HG'
 go_enter Tryd.func63, Tryd.ntmps63
 go_upto_region 1 with fail
 rw [← HW0.out, HWb.out]
 go_wp2_with fail
 refine HN1.out.mono ?_
 rintro e w1 ⟨rfl, h1, k1⟩
 obtain ⟨n1, hn1⟩ : ∃ n, n = s.name.1 := ⟨_, rfl⟩
 rw [← hn1] at hl1 ⊢
 have HNn1 := Lh hn1
 have K1 := Lh (show Kp (fun k => k = g) w w1 from (Kp.of_below' L0.out).trans k1 (fun _ _ h => h))
 have Z1 := Lh (k1.blk Z0.out (by have := HG.out; omega))
 have S1 := Lh (show wb + 1 ≤ w1.heap.size by rw [← S0.out]; exact k1.size)
 have R1 := Lh h1
 clear h1 k1 hn1 HN1 R0 Z0
 go_upto_region 2 with fail
 obtain ⟨nb, hnb⟩ : ∃ nb, w1.heap.size = nb := ⟨_, rfl⟩
 obtain ⟨w2, hw2⟩ : ∃ w2, w1.alloc (.cells #[.int .i64 34, .string ⟨n1.toArray⟩, .int .i64 0, .slice none 0 0] 25) = w2 := ⟨_, rfl⟩
 have b2 := Lh (show Blk w2 nb 25 [.int .i64 34, .string ⟨n1.toArray⟩, .int .i64 0, .slice none 0 0] by rw [← hw2, ← hnb]; exact Blk.new w1 _ _)
 have hb2 := show Below w1.heap.size w1 w2 by rw [← hw2]; exact (Below.refl _ _).alloc (Nat.le_refl _) _
 have z2 := Lh (Z1.out.below hb2 Z1.out.lt)
 have R2 := Lh (R1.out.below hb2)
 have K2 := Lh (K1.out.trans (Kp.of_below' hb2) (fun _ _ h => h))
 have HNB := Lh (show wb < nb by have := S1.out; omega)
 rw [hnb, hw2]
 clear hb2 hw2 hnb Z1 R1 K1 S1
 by_cases ht : s.name.2.look = [46]
 ·
  have HS := Lh (skips_yes R2.out ht (by simp))
  have HP := Lh (show s.place = (.mk 35 (s.name.1 ++ 46 :: s.name.2.adv.name.1) 0 [], s.name.2.adv.name.2) by unfold St.place; rw [if_pos ht])
  clear ht
  go_wp2_with fail
  refine HS.out.mono ?_
  rintro e w3 ⟨rfl, h3, k3⟩
  have b3 := Lh (k3.blk b2.out (by have := HG.out; have := HNB.out; omega))
  have z3 := Lh (k3.blk z2.out (by have := HG.out; omega))
  have K3 := Lh (K2.out.trans k3 (fun _ _ h => h))
  have R3 := Lh h3
  clear h3 k3 b2 z2 K2 R2 HS
  have d0 := b3.out.cell 0; have f0 := b3.out.frozen 0
  simp only [g0, gs] at d0
  go_upto_region 4 with fail
  clear d0 f0
  obtain ⟨w4, hw4⟩ : ∃ w4, w4 = (w3.setCell ⟨nb, 0, none⟩ (.int .i64 35)).drew := ⟨_, rfl⟩
  have k4 := show Kp (fun k => k = nb) w3 w4 by rw [hw4]; exact (Kp.setCell (Z := fun k => k = nb) _ ⟨nb, 0, none⟩ _ rfl).trans (Kp.drew (fun _ => False) _) (fun _ _ h => h.elim)
  have b0 := Lh (show Blk w4 nb 25 [.int .i64 35, .string ⟨n1.toArray⟩, .int .i64 0, .slice none 0 0] by rw [hw4]; exact b3.out.put 0 _)
  have z0 := Lh (k4.blk z3.out (by have := HNB.out; omega))
  have R0 := Lh (R3.out.kp k4 (by have := HG.out; have := HNB.out; omega) (fun k hk => by have := R3.out.hg; have := HG.out; have := HNB.out; omega))
  have K0 := Lh (K3.out.trans k4 (fun k hk e => by have := HWB.out; have := HNB.out; omega))
  refine wp_region_any (by kernel_rfl) ?_
  change wpAny _ _ _ _ _ _ _ (World.drew _)
  rw [← hw4]
  have HN2 := Lh (fun W (hW : RS B W g T E s.name.2.adv) => name_any hW)
  have hl2 := name_len R0.out
  obtain ⟨n2, hn2⟩ : ∃ n, n = s.name.2.adv.name.1 := ⟨_, rfl⟩
  rw [← hn2] at hl2
  simp only [← hn2] at HN2
  have HCat := Lh (cat3 n1 n2)
  have HFin : Hid (∀ w8, RS B w8 g T E s.name.2.adv.name.2 → Kp (fun k => k = g) w w8 → RdOut B w g T E (fun n s' => (n, s') = s.place) (.returned (.agg (NC 35 (n1 ++ 46 :: n2) 0 (.slice none 0 0)).toArray)) w8) := Lh (fun w8 h8 k8 => ⟨.mk 35 (n1 ++ 46 :: n2) 0 [], _, _, rfl, by rw [HP.out, HNn1.out, hn2], h8, NV.leaf (fine_small (by omega) (by omega) (by omega) (by omega) (by rw [List.length_append, List.length_cons]; omega)), k8⟩)
  have hq1 : 1 + n2.length ≤ 9223372036854775807 := by omega
  have hq2 : n1.length + (1 + n2.length) ≤ 9223372036854775807 := by omega
  clear hn2 k4 hw4 b3 z3 R3 K3 HP
  refine tg 0 (.pointer (some ⟨nb, 1, none⟩)) ?_
  refine tg 2 (pt g) ?_
  refine rm [1, 3] (ac (fun K hK => ?_) (ac (fun K hK => ?_) AllReady.nil))
  ·
   have d1 := b0.out.cell 1
   simp only [g0, gs] at d1
   go_simp
   clear d1
   try (refine hk hK ?_; clear hK K)
   refine r1 3 (fun K hK => ?_)
   go_simp
   refine (HN2.out _ R0.out).mono ?_; rintro e w3 ⟨rfl, h2, k2⟩
   have R4 := Lh h2
   have K5 := Lh (K0.out.trans k2 (fun _ _ h => h))
   have b6 := Lh (k2.blk b0.out (by have := HG.out; have := HNB.out; omega))
   have z7 := Lh (k2.blk z0.out (by have := HG.out; omega))
   clear h2 k2
   go_wp2_with fail
   try (refine hk hK ?_; clear hK K)
   refine tg 4 (.string (⟨#[46]⟩ ++ ⟨n2.toArray⟩)) ?_
   refine tg 5 (.string (⟨n1.toArray⟩ ++ (⟨#[46]⟩ ++ ⟨n2.toArray⟩))) ?_
   refine tg 6 (.pointer (some ⟨nb, 1, none⟩)) ?_
   refine r1 7 (fun K hK => ?_)
   have d1 := b6.out.cell 1; have f1 := b6.out.frozen 1
   simp only [g0, gs] at d1
   go_simp
   clear d1 f1
   try (refine hk hK ?_; clear hK K)
   refine wpAny_done (by kernel_rfl) ?_ _
   try simp only [zp, zn, zu, zv, zw]
   obtain ⟨w9, hw9⟩ : ∃ w9, w9 = _root_.Go.World.setCell w3 ⟨nb, 1, none⟩ (.string (⟨n1.toArray⟩ ++ (⟨#[46]⟩ ++ ⟨n2.toArray⟩))) := ⟨_, rfl⟩
   have b9 := Lh (show Blk w9 nb 25 [.int .i64 35, .string (⟨n1.toArray⟩ ++ (⟨#[46]⟩ ++ ⟨n2.toArray⟩)), .int .i64 0, .slice none 0 0] by rw [hw9]; exact b6.out.put 1 _)
   have z9 := Lh (show Blk w9 wb 25 [.int .i64 0, .string ⟨#[]⟩, .int .i64 0, .slice none 0 0] by rw [hw9]; exact z7.out.far (by show wb ≠ nb; have := HNB.out; omega) _)
   have k9 := Lh (show Kp (fun k => k = g) w w9 by rw [hw9]; exact (K5.out.trans (Kp.setCell (Z := fun k => k = nb) _ ⟨nb, 1, none⟩ _ rfl) (fun k hk e => by have := HWB.out; have := HNB.out; omega)))
   have h9 := Lh (show RS B w9 g T E s.name.2.adv.name.2 by rw [hw9]; exact R4.out.kp (Kp.setCell (Z := fun k => k = nb) _ ⟨nb, 1, none⟩ _ rfl) (by have := HG.out; have := HNB.out; omega) (fun k hk => by have := R4.out.hg; have := HG.out; have := HNB.out; omega))
   rw [← hw9]
   clear hw9
   go_wp2_with (first
    | (with_reducible refine wpList_load_cells rfl 25 4 size25 (.tmp 3) rfl ⟨nb, 0, none⟩ rfl [.int .i64 35, .string (⟨n1.toArray⟩ ++ (⟨#[46]⟩ ++ ⟨n2.toArray⟩)), .int .i64 0, .slice none 0 0] rfl _ Tryd.underlying25 rfl b9.out.at ?_)
    | (with_reducible refine wpList_store_blk rfl 25 4 size25 (.tmp 2) (.tmp 17) rfl wb [.int .i64 35, .string (⟨n1.toArray⟩ ++ (⟨#[46]⟩ ++ ⟨n2.toArray⟩)), .int .i64 0, .slice none 0 0] rfl rfl _ z9.out rfl rfl rfl ?_; intro w8 hb8 hk8))
   rw [HCat.out] at hb8
   refine bodyPost_ret (v := .agg (NC 35 (n1 ++ 46 :: n2) 0 (.slice none 0 0)).toArray) (box_res 4 size25 rfl _ _ wb (NC 35 (n1 ++ 46 :: n2) 0 (.slice none 0 0)) _ rfl hb8 rfl Tryd.underlying25 rfl) rfl (HFin.out w8 ?_ ?_)
   ·
    exact h9.out.kp hk8 (by have := HG.out; have := HWB.out; omega) (fun k hk => by have := h9.out.hg; have := HG.out; have := HWB.out; omega)
   ·
    exact k9.out.trans hk8 (fun k hk e => by have := HWB.out; omega)
  ·
   go_simp
   refine (HN2.out _ R0.out).mono ?_; rintro e w11 ⟨rfl, h2, k2⟩
   have R12 := Lh h2
   have K13 := Lh (K0.out.trans k2 (fun _ _ h => h))
   have b14 := Lh (k2.blk b0.out (by have := HG.out; have := HNB.out; omega))
   have z15 := Lh (k2.blk z0.out (by have := HG.out; omega))
   clear h2 k2
   go_wp2_with fail
   try (refine hk hK ?_; clear hK K)
   refine tg 4 (.string (⟨#[46]⟩ ++ ⟨n2.toArray⟩)) ?_
   refine r1 1 (fun K hK => ?_)
   have d1 := b14.out.cell 1
   simp only [g0, gs] at d1
   go_simp
   clear d1
   try (refine hk hK ?_; clear hK K)
   refine tg 5 (.string (⟨n1.toArray⟩ ++ (⟨#[46]⟩ ++ ⟨n2.toArray⟩))) ?_
   refine tg 6 (.pointer (some ⟨nb, 1, none⟩)) ?_
   refine r1 7 (fun K hK => ?_)
   have d1 := b14.out.cell 1; have f1 := b14.out.frozen 1
   simp only [g0, gs] at d1
   go_simp
   clear d1 f1
   try (refine hk hK ?_; clear hK K)
   refine wpAny_done (by kernel_rfl) ?_ _
   try simp only [zp, zn, zu, zv, zw]
   obtain ⟨w9, hw9⟩ : ∃ w9, w9 = _root_.Go.World.setCell w11 ⟨nb, 1, none⟩ (.string (⟨n1.toArray⟩ ++ (⟨#[46]⟩ ++ ⟨n2.toArray⟩))) := ⟨_, rfl⟩
   have b9 := Lh (show Blk w9 nb 25 [.int .i64 35, .string (⟨n1.toArray⟩ ++ (⟨#[46]⟩ ++ ⟨n2.toArray⟩)), .int .i64 0, .slice none 0 0] by rw [hw9]; exact b14.out.put 1 _)
   have z9 := Lh (show Blk w9 wb 25 [.int .i64 0, .string ⟨#[]⟩, .int .i64 0, .slice none 0 0] by rw [hw9]; exact z15.out.far (by show wb ≠ nb; have := HNB.out; omega) _)
   have k9 := Lh (show Kp (fun k => k = g) w w9 by rw [hw9]; exact (K13.out.trans (Kp.setCell (Z := fun k => k = nb) _ ⟨nb, 1, none⟩ _ rfl) (fun k hk e => by have := HWB.out; have := HNB.out; omega)))
   have h9 := Lh (show RS B w9 g T E s.name.2.adv.name.2 by rw [hw9]; exact R12.out.kp (Kp.setCell (Z := fun k => k = nb) _ ⟨nb, 1, none⟩ _ rfl) (by have := HG.out; have := HNB.out; omega) (fun k hk => by have := R12.out.hg; have := HG.out; have := HNB.out; omega))
   rw [← hw9]
   clear hw9
   go_wp2_with (first
    | (with_reducible refine wpList_load_cells rfl 25 4 size25 (.tmp 3) rfl ⟨nb, 0, none⟩ rfl [.int .i64 35, .string (⟨n1.toArray⟩ ++ (⟨#[46]⟩ ++ ⟨n2.toArray⟩)), .int .i64 0, .slice none 0 0] rfl _ Tryd.underlying25 rfl b9.out.at ?_)
    | (with_reducible refine wpList_store_blk rfl 25 4 size25 (.tmp 2) (.tmp 17) rfl wb [.int .i64 35, .string (⟨n1.toArray⟩ ++ (⟨#[46]⟩ ++ ⟨n2.toArray⟩)), .int .i64 0, .slice none 0 0] rfl rfl _ z9.out rfl rfl rfl ?_; intro w8 hb8 hk8))
   rw [HCat.out] at hb8
   refine bodyPost_ret (v := .agg (NC 35 (n1 ++ 46 :: n2) 0 (.slice none 0 0)).toArray) (box_res 4 size25 rfl _ _ wb (NC 35 (n1 ++ 46 :: n2) 0 (.slice none 0 0)) _ rfl hb8 rfl Tryd.underlying25 rfl) rfl (HFin.out w8 ?_ ?_)
   ·
    exact h9.out.kp hk8 (by have := HG.out; have := HWB.out; omega) (fun k hk => by have := h9.out.hg; have := HG.out; have := HWB.out; omega)
   ·
    exact k9.out.trans hk8 (fun k hk e => by have := HWB.out; omega)
 ·
  have HS := Lh (skips_no R2.out ht)
  have HP := Lh (show s.place = (.mk 34 s.name.1 0 [], s.name.2) by unfold St.place; rw [if_neg ht])
  clear ht
  go_wp2_with fail
  refine HS.out.mono ?_
  rintro e w3 ⟨rfl, rfl⟩
  go_wp2_with (first
   | (with_reducible refine wpList_load_cells rfl 25 4 size25 (.tmp 3) rfl ⟨nb, 0, none⟩ rfl [.int .i64 34, .string ⟨n1.toArray⟩, .int .i64 0, .slice none 0 0] rfl _ Tryd.underlying25 rfl b2.out.at ?_)
   | (with_reducible refine wpList_store_blk rfl 25 4 size25 (.tmp 2) (.tmp 17) rfl wb [.int .i64 34, .string ⟨n1.toArray⟩, .int .i64 0, .slice none 0 0] rfl rfl _ z2.out rfl rfl rfl ?_; intro w8 hb8 hk8))
  refine bodyPost_ret (v := .agg (NC 34 n1 0 (.slice none 0 0)).toArray) (box_res 4 size25 rfl _ _ wb _ _ rfl hb8 rfl Tryd.underlying25 rfl) rfl ⟨.mk 34 n1 0 [], _, _, rfl, by rw [HP.out, HNn1.out], R2.out.kp hk8 (by have := HG.out; omega) (fun k hk => by have := R2.out.hg; have := HG.out; omega), NV.leaf (fine_small (by omega) (by omega) (by omega) (by omega) (by omega)), K2.out.trans hk8 (fun k hk e => by have := HWB.out; omega)⟩
end
end Go.Proofs.YtpbhgebblpdmnaaDoor
namespace Go.Proofs.YtpbhgebblpdmnaaDoor
open Go.RowKit Wr Src
set_option linter.unusedVariables false
set_option maxRecDepth 100000
def ZN : Value := .agg #[.int .i64 0, .string ⟨#[]⟩, .int .i64 0, .slice none 0 0]
def Z4 : List Value := [.int .i64 0, .string ⟨#[]⟩, .int .i64 0, .slice none 0 0]
theorem info25 : (Tryd.prog.info? 25).map (fun i => (i.zero, i.size, i.bytes)) = some (some ZN, 4, 56) := by kernel_rfl
theorem info_parts25 : ∃ i, Tryd.prog.info? 25 = some i ∧ i.zero = some ZN ∧ i.size = 4 ∧ i.bytes = 56 := by
 have h := info25
 cases hq : Tryd.prog.info? 25 with
 | none => rw [hq] at h; cases h
 | some i =>
  rw [hq] at h
  simp only [Option.map_some, Option.some.injEq, Prod.mk.injEq] at h
  exact ⟨i, rfl, h.1, h.2.1, h.2.2⟩
structure KR (w : World) (b : Nat) (v : Value) (l : List Nd) (xs : List Value) : Prop where
 own : w.ownsRow (b + 2) 25 4 v l.length xs
 nl : NL w (fun k => b < k ∧ some k ≠ v.ownBlock) l xs
 len : l.length ≤ 8589934592
theorem KR.form {w : World} {b : Nat} {v : Value} {l : List Nd} {xs : List Value} (h : KR w b v l xs) : ∃ A c, v = .slice A l.length c ∧ (A = none → c = 0 ∧ l = []) ∧ l.length ≤ c ∧ (∀ a, A = some a → ∃ g, a = ⟨g, 0, none⟩) := by
 rcases h.own.2 with ⟨h1, h2⟩ | ⟨g, c, cur, h1, h2, h3, h4, _⟩
 ·
  exact ⟨none, 0, by rw [h1, h2], (fun _ => ⟨rfl, List.eq_nil_of_length_eq_zero h2⟩), by omega, (fun a h => by cases h)⟩
 ·
  exact ⟨some ⟨g, 0, none⟩, c, h1, (fun h => by cases h), h4, fun a h => ⟨g, by cases h; rfl⟩⟩
theorem KR.nil (w : World) (b : Nat) : KR w b (.slice none 0 0) [] [] := ⟨World.ownsRow_nil _ _ _ _, NL.nil, by simp⟩
theorem KR.kp {w w' : World} {b : Nat} {v : Value} {l : List Nd} {xs : List Value} {Z : Nat → Prop} (h : KR w b v l xs) (k : Kp Z w w') (hz : ∀ j, Z j → j ≤ b) : KR w' b v l xs := by
 refine ⟨?_, k.nl h.nl (fun g h1 h2 h3 => by have := hz g h3; omega), h.len⟩
 refine ⟨h.own.1, ?_⟩
 rcases h.own.2 with h2 | ⟨g, c, cur, h1, h2, h3, h4⟩
 ·
  exact Or.inl h2
 ·
  refine Or.inr ⟨g, c, cur, h1, h2, ?_, h4⟩
  have hlt : g < w.heap.size := by
   rcases Nat.lt_or_ge g w.heap.size with hlt | hge
   ·
    exact hlt
   ·
    rw [Array.getElem?_eq_none hge] at h3; cases h3
  exact (k.block g hlt (fun e => by have := hz g e; omega)).trans h3
theorem KR.nv {w : World} {b : Nat} {A : Option Addr} {c n : Nat} {l : List Nd} {xs : List Value} {k : Int} {t : Str} {z : Int} (h : KR w b (.slice A n c) l xs) (hf : Fine k t z) : NV w (fun j => b < j) (.mk k t z l) (NC k t z (.slice A n c)) := by
 obtain ⟨A', c', e, h1, h2, h3⟩ := h.form
 injection e with e1 e2 e3
 subst e1 e2 e3
 refine NV.intro hf h.len h2 (fun e => (h1 e).1) (xs := xs) ?_ (NL.keep (fun g h1 h2 => ⟨rfl, h1.1⟩) _ _ h.nl)
 intro hn
 rcases h.own.2 with ⟨h4, h5⟩ | ⟨g, c0, cur, h4, h5, h6, h7, h8, h9, h10⟩
 ·
  have := NL.len _ _ h.nl
  rw [h5] at this
  exact absurd (List.eq_nil_of_length_eq_zero (by omega)) hn
 ·
  injection h4 with h4 _ _
  subst h4
  refine ⟨g, 0, rfl, by omega, fun j u hu => ?_⟩
  rw [Nat.zero_add]
  refine (cell_of_row w g j cur _ (0, 0) h6).trans ?_
  rw [← h10] at hu
  rw [List.getElem?_take] at hu
  split at hu
  ·
   rw [← Array.getElem?_toList]; exact hu
  ·
   cases hu
def put4 (w : World) (g o : Nat) (a b c d : Value) : World := (((w.setCell ⟨g, o, none⟩ a).setCell ⟨g, o + 1, none⟩ b).setCell ⟨g, o + 2, none⟩ c).setCell ⟨g, o + 3, none⟩ d
theorem put4_kp (w : World) (g o : Nat) (a b c d : Value) : Kp (fun k => k = g) w (put4 w g o a b c d) :=
 ((((Kp.refl (fun k => k = g) w).set ⟨g, o, none⟩ a rfl).set ⟨g, o + 1, none⟩ b rfl).set ⟨g, o + 2, none⟩ c rfl).set ⟨g, o + 3, none⟩ d rfl
theorem set4 (cs p : List Value) (n : Nat) (a b c d : Value) (h1 : n * 4 + 4 ≤ cs.length) (h2 : cs.take (n * 4 + 4) = p ++ Z4) (hp : p.length = n * 4) :
  ((((cs.set (n * 4) a).set (n * 4 + 1) b).set (n * 4 + 2) c).set (n * 4 + 3) d).take (n * 4 + 4) = p ++ [a, b, c, d] := by
 refine List.ext_getElem? fun j => ?_
 have h3 : ∀ j, j < n * 4 → cs[j]? = p[j]? := fun j hj => by
  have : (cs.take (n * 4 + 4))[j]? = (p ++ Z4)[j]? := by rw [h2]
  rw [List.getElem?_take, if_pos (by omega), List.getElem?_append_left (by omega)] at this
  exact this
 rw [List.getElem?_take]
 by_cases hj : j < n * 4
 ·
  rw [if_pos (by omega), List.getElem?_append_left (by omega)]
  simp only [List.getElem?_set]
  rw [if_neg (by omega), if_neg (by omega), if_neg (by omega), if_neg (by omega)]
  exact h3 j hj
 ·
  by_cases hj4 : j < n * 4 + 4
  ·
   rw [if_pos hj4, List.getElem?_append_right (by omega), hp]
   simp only [List.getElem?_set, List.length_set]
   rcases (show j = n * 4 ∨ j = n * 4 + 1 ∨ j = n * 4 + 2 ∨ j = n * 4 + 3 by omega) with rfl | rfl | rfl | rfl
   ·
    rw [if_neg (by omega), if_neg (by omega), if_neg (by omega), if_pos rfl, if_pos (by omega), Nat.sub_self]; rfl
   ·
    rw [if_neg (by omega), if_neg (by omega), if_pos rfl, if_pos (by omega), Nat.add_sub_cancel_left]; rfl
   ·
    rw [if_neg (by omega), if_pos rfl, if_pos (by omega), Nat.add_sub_cancel_left]; rfl
   ·
    rw [if_pos rfl, if_pos (by omega), Nat.add_sub_cancel_left]; rfl
  ·
   rw [if_neg hj4, List.getElem?_eq_none (by simp; omega)]
theorem KR.push {w w1 : World} {b g c : Nat} {v : Value} {l : List Nd} {xs : List Value} {n : Nd} {k : Int} {t : Str} {z : Int} {v2 : Value}
  (h : KR w b v l xs) (hn : NV w (fun j => b < j ∧ some j ≠ v.ownBlock) n (NC k t z v2)) (hl : l.length + 1 ≤ 8589934592)
  (hown : w1.ownsRow (b + 2) 25 4 (.slice (some ⟨g, 0, none⟩) (l.length + 1) c) (l.length + 1) (xs ++ Z4)) (hg : w.grownBy w1 v.ownBlock) (hat : v.ownBlock = some g ∨ g = w.heap.size) :
  KR (put4 w1 g (l.length * 4) (iv k) (sv t) (iv z) v2) b (.slice (some ⟨g, 0, none⟩) (l.length + 1) c) (l ++ [n]) (xs ++ NC k t z v2) ∧ b + 2 ≤ g ∧ (some g = v.ownBlock ∨ w.heap.size ≤ g) ∧ (∀ j, j < 4 → ∃ u, w1.cell? ⟨g, l.length * 4 + j, none⟩ = some u) ∧ (∀ j, w1.frozen? ⟨g, j, none⟩ = false) := by
 rcases hown.2 with ⟨h1, h2⟩ | ⟨g', c', cur, h1, h2, h3, h4, h5, h6, h7⟩
 ·
  omega
 ·
  injection h1 with h1 _ h1c
  injection h1 with h1
  injection h1 with h1
  subst h1 h1c
  have hx : xs.length = l.length * 4 := NL.len _ _ h.nl
  have hcl : (l.length + 1) * 4 ≤ cur.toList.length := by
   have := congrArg List.length h7
   rw [List.length_take, List.length_append, hx] at this
   simp only [Z4, List.length_cons, List.length_nil] at this
   omega
  have hblk : Blk w1 g 25 cur.toList := by unfold Blk; rw [Array.toArray_toList]; exact h3
  have hlt := hblk.lt
  refine ⟨⟨⟨?_, Or.inr ⟨g, c, ((((cur.toList.set (l.length * 4) (iv k)).set (l.length * 4 + 1) (sv t)).set (l.length * 4 + 2) (iv z)).set (l.length * 4 + 3) v2).toArray, ?_, h2, ?_, ?_, h5, ?_, ?_⟩⟩, ?_, ?_⟩, by omega, ?_, ?_, ?_⟩
  ·
   rw [List.length_append, List.length_append, hx]; simp [NC]; omega
  ·
   rw [List.length_append]; rfl
  ·
   exact (((hblk.put (l.length * 4) (iv k)).put (l.length * 4 + 1) (sv t)).put (l.length * 4 + 2) (iv z)).put (l.length * 4 + 3) v2
  ·
   rw [List.length_append]; exact h4
  ·
   simp; simpa using h6
  ·
   rw [List.toList_toArray, List.length_append, show (l.length + [n].length) * 4 = l.length * 4 + 4 by simp; omega]
   exact set4 _ _ _ _ _ _ _ (by omega) (by rw [← h7]; congr 1; omega) hx
  ·
   have hk := put4_kp w1 g (l.length * 4) (iv k) (sv t) (iv z) v2
   have hkeep : ∀ j, (b < j ∧ some j ≠ v.ownBlock) → j < w.heap.size → (put4 w1 g (l.length * 4) (iv k) (sv t) (iv z) v2).heap[j]? = w.heap[j]? ∧ (b < j ∧ some j ≠ (Value.slice (some ⟨g, 0, none⟩) (l.length + 1) c).ownBlock) := by
    intro j hj hjs
    have hne : j ≠ g := by
     rintro rfl
     rcases hat with e | e
     ·
      exact hj.2 e.symm
     ·
      omega
    refine ⟨(hk.block j (Nat.lt_of_lt_of_le hjs hg.size) hne).trans (hg.block j hjs hj.2), hj.1, ?_⟩
    intro e
    injection e with e
    exact hne e
   exact NL.app l [n] xs _ (NL.keep hkeep l xs h.nl) (NL.one (NV.keep hkeep n _ hn))
  ·
   rw [List.length_append]; simp only [List.length_cons, List.length_nil]; omega
  ·
   rcases hat with e | e
   ·
    exact Or.inl e.symm
   ·
    exact Or.inr (by omega)
  ·
   intro j hj
   refine ⟨_, (hblk.cell (l.length * 4 + j)).trans (List.getElem?_eq_getElem (by omega))⟩
  ·
   intro j; exact hblk.frozen j
end Go.Proofs.YtpbhgebblpdmnaaDoor
namespace Go.Proofs.YtpbhgebblpdmnaaDoor
open Go.RowKit Wr Src
set_option linter.unusedVariables false
set_option maxRecDepth 100000
def PN (w : World) (b : Nat) (m : Nd) : Prop := ∃ v xs, Blk w b 25 (NC m.kind m.text m.num v) ∧ KR w b v m.kids xs ∧ Fine m.kind m.text m.num
theorem PN.kp {w w' : World} {b : Nat} {m : Nd} {Z : Nat → Prop} (h : PN w b m) (k : Kp Z w w') (hz : ∀ j, Z j → j < b) : PN w' b m := by
 obtain ⟨v, xs, h1, h2, h3⟩ := h
 exact ⟨v, xs, k.blk h1 (fun e => by have := hz b e; omega), h2.kp k (fun j e => by have := hz j e; omega), h3⟩
theorem PN.lt {w : World} {b : Nat} {m : Nd} (h : PN w b m) : b < w.heap.size := by
 obtain ⟨v, xs, h1, _⟩ := h
 exact h1.lt
def PtOut (B : Nat) (w : World) (g : Nat) (T : Str) (E : Nat) (nb kd : Nat) (c : UInt8) (m : Nd) (s : St) (u : Nat) (en : Ending) (w' : World) : Prop :=
 ∃ m' s', en = .returned (.tuple #[]) ∧ Ev (fun k => Src.part k kd c m s) (m', s') ∧ RS B w' g T E s' ∧ PN w' nb m' ∧ Kp (fun k => k = g ∨ k = nb ∨ nb + 2 ≤ k) w w' ∧ mu s' ≤ mu s - u ∧ m'.kids.length + mu s' ≤ m.kids.length + mu s + 1
section
variable {B : Nat} {w : World} {g : Nat} {T : Str} {E : Nat} {s : St}
theorem loc_len (h : RS B w g T E s) : s.loc.1.length ≤ 4294967295 := by
 have : (s.getText 5).1.length ≤ 4294967295 := by
  unfold St.getText
  split
  ·
   rename_i hc
   have h0 := cls_ne hc (by omega)
   obtain ⟨he, p, R, hs⟩ := mu_look h0
   obtain ⟨h1, _, _⟩ := lxi_next h.x hs
   have := h.l
   dsimp only; omega
  ·
   simp
 show ((s.getText 5).1.drop 1).length ≤ _
 rw [List.length_drop]; omega
theorem number_val (s : St) (lo hi : Nat) : -(hi : Int) ≤ (s.number lo hi).1 ∧ (s.number lo hi).1 ≤ (hi : Int) := by
 unfold St.number
 split
 ·
  have := numeral_val s.adv lo hi; dsimp only; omega
 ·
  have := numeral_val s lo hi; omega
theorem byte_ix {ps : Str} {i : Nat} {c : UInt8} (hi : ps[i]? = some c) : i < ps.length ∧ ∀ h : i < (⟨ps.toArray⟩ : ByteArray).size, (((⟨ps.toArray⟩ : ByteArray)[i]'h).toNat : Int) = (c.toNat : Int) := by
 obtain ⟨h1, h2⟩ := List.getElem?_eq_some_iff.1 hi
 refine ⟨h1, fun h => ?_⟩
 rw [← h2]; rfl
set_option maxHeartbeats 4000000 in
theorem part_n (h : RS B w g T E s) {nb : Nat} {m : Nd} (hp : PN w nb m) (hgn : g < nb) (wd ps : Str) (kd : Nat) (i : Nat) (hi : ps[i]? = some 110) (hl : ps.length ≤ 100) : Calls Tryd.prog 52 #[pt g, pt nb, SV wd ps (Src.shape kd).low (Src.shape kd).high, nv i] w (PtOut B w g T E nb kd 110 m s 1) := by
 obtain ⟨v, xs, hb, hk, hf⟩ := hp
 obtain ⟨hi1, hix⟩ := byte_ix hi
 have hsz : (⟨ps.toArray⟩ : ByteArray).size = ps.length := rfl
 have hiI : (i : Int) < (ps.length : Int) := by omega
 obtain ⟨lo, hlo⟩ : ∃ lo, lo = (Src.shape kd).low := ⟨_, rfl⟩
 obtain ⟨hi', hhi⟩ : ∃ lo, lo = (Src.shape kd).high := ⟨_, rfl⟩
 rw [← hlo, ← hhi]
 have HLO := Lh hlo; have HHI := Lh hhi
 have HW := Lh ((Below.refl w.heap.size w).alloc (Nat.le_refl _) (.cells [sv wd, sv ps, nv lo, nv hi'].toArray 82))
 change Hid (Below w.heap.size w (w.alloc (.cells #[sv wd, sv ps, nv lo, nv hi'] 82))) at HW
 have HX := Lh (Blk.new w 82 [sv wd, sv ps, nv lo, nv hi'])
 change Hid (Blk (w.alloc (.cells #[sv wd, sv ps, nv lo, nv hi'] 82)) w.heap.size 82 [sv wd, sv ps, nv lo, nv hi']) at HX
 have HC := Lh (name_any (h.below HW.out))
 have HB := Lh (hb.below HW.out hb.lt)
 have HGN := Lh hgn; have HKR := Lh hk; have HFn := Lh hf; have HI := Lh hi1
 have HLN := Lh (name_len h)
 clear hb hk hf hgn hi h hlo hhi hi1 hl
 go_enter Tryd.func52, Tryd.ntmps52
 go_upto_region 1 with fail
 generalize w.alloc (.cells #[sv wd, sv ps, nv lo, nv hi'] 82) = w0 at HW HC HB HX ⊢
 obtain ⟨x0, x1, x2, x3⟩ : w0.cell? ⟨w.heap.size, 0, none⟩ = some (sv wd) ∧ w0.cell? ⟨w.heap.size, 1, none⟩ = some (sv ps) ∧ w0.cell? ⟨w.heap.size, 2, none⟩ = some (nv lo) ∧ w0.cell? ⟨w.heap.size, 3, none⟩ = some (nv hi') := ⟨HX.out.cell 0, HX.out.cell 1, HX.out.cell 2, HX.out.cell 3⟩
 go_wp2_with fail
 refine HC.out.mono ?_
 rintro e w1 ⟨rfl, h1, k1⟩
 have K1 := Lh ((Kp.of_below' HW.out).trans k1 (fun _ _ h => h))
 have b1 := Lh (k1.blk HB.out (by have := HGN.out; omega))
 have d1 := b1.out.cell 1; have f1 := b1.out.frozen 1
 have R1 := Lh h1
 clear h1 k1 x0 x1 x2 x3 HB HX
 unfold NC at d1
 simp only [g0, gs] at d1
 go_wp2_with fail
 have k2 : Kp (fun k => k = nb) w1 (w1.setCell ⟨nb, 1, none⟩ (sv s.name.1)) := Kp.setCell _ _ _ rfl
 refine bodyPost_end (v := .tuple #[]) (res_none rfl _ _) rfl ⟨m.setText s.name.1, s.name.2, rfl, by first | (rw [HLO.out, HHI.out]; exact pe_name) | exact pe_name, R1.out.kp k2 (by have := HGN.out; omega) (fun k hk => by have := R1.out.hg; have := HGN.out; omega), ⟨v, xs, ?_, ?_, ?_⟩, (K1.out.mono (Z' := fun k => k = g ∨ k = nb ∨ nb + 2 ≤ k) (fun k _ e => Or.inl e)).trans k2 (fun k _ e => Or.inr (Or.inl e)), mu_name s, ?_⟩
 ·
  obtain ⟨mk, mt, mz, ml⟩ := m
  exact b1.out.put 1 _
 ·
  obtain ⟨mk, mt, mz, ml⟩ := m
  exact (HKR.out.kp K1.out (fun j e => by have := HGN.out; omega)).kp k2 (fun j e => by omega)
 ·
  obtain ⟨mk, mt, mz, ml⟩ := m
  exact ⟨HFn.out.k0, HFn.out.k1, HFn.out.z0, HFn.out.z1, by have := HLN.out; exact Nat.le_trans this (by omega)⟩
 ·
  have := mu_name s
  obtain ⟨mk, mt, mz, ml⟩ := m
  show ml.length + _ ≤ ml.length + _ + 1
  omega
set_option maxHeartbeats 4000000 in
theorem part_l (h : RS B w g T E s) {nb : Nat} {m : Nd} (hp : PN w nb m) (hgn : g < nb) (wd ps : Str) (kd : Nat) (i : Nat) (hi : ps[i]? = some 108) (hl : ps.length ≤ 100) : Calls Tryd.prog 52 #[pt g, pt nb, SV wd ps (Src.shape kd).low (Src.shape kd).high, nv i] w (PtOut B w g T E nb kd 108 m s 1) := by
 obtain ⟨v, xs, hb, hk, hf⟩ := hp
 obtain ⟨hi1, hix⟩ := byte_ix hi
 have hsz : (⟨ps.toArray⟩ : ByteArray).size = ps.length := rfl
 have hiI : (i : Int) < (ps.length : Int) := by omega
 obtain ⟨lo, hlo⟩ : ∃ lo, lo = (Src.shape kd).low := ⟨_, rfl⟩
 obtain ⟨hi', hhi⟩ : ∃ lo, lo = (Src.shape kd).high := ⟨_, rfl⟩
 rw [← hlo, ← hhi]
 have HLO := Lh hlo; have HHI := Lh hhi
 have HW := Lh ((Below.refl w.heap.size w).alloc (Nat.le_refl _) (.cells [sv wd, sv ps, nv lo, nv hi'].toArray 82))
 change Hid (Below w.heap.size w (w.alloc (.cells #[sv wd, sv ps, nv lo, nv hi'] 82))) at HW
 have HX := Lh (Blk.new w 82 [sv wd, sv ps, nv lo, nv hi'])
 change Hid (Blk (w.alloc (.cells #[sv wd, sv ps, nv lo, nv hi'] 82)) w.heap.size 82 [sv wd, sv ps, nv lo, nv hi']) at HX
 have HC := Lh (local_any (h.below HW.out))
 have HB := Lh (hb.below HW.out hb.lt)
 have HGN := Lh hgn; have HKR := Lh hk; have HFn := Lh hf; have HI := Lh hi1
 have HLN := Lh (loc_len h)
 clear hb hk hf hgn hi h hlo hhi hi1 hl
 go_enter Tryd.func52, Tryd.ntmps52
 go_upto_region 1 with fail
 generalize w.alloc (.cells #[sv wd, sv ps, nv lo, nv hi'] 82) = w0 at HW HC HB HX ⊢
 obtain ⟨x0, x1, x2, x3⟩ : w0.cell? ⟨w.heap.size, 0, none⟩ = some (sv wd) ∧ w0.cell? ⟨w.heap.size, 1, none⟩ = some (sv ps) ∧ w0.cell? ⟨w.heap.size, 2, none⟩ = some (nv lo) ∧ w0.cell? ⟨w.heap.size, 3, none⟩ = some (nv hi') := ⟨HX.out.cell 0, HX.out.cell 1, HX.out.cell 2, HX.out.cell 3⟩
 go_wp2_with fail
 refine HC.out.mono ?_
 rintro e w1 ⟨rfl, h1, k1⟩
 have K1 := Lh ((Kp.of_below' HW.out).trans k1 (fun _ _ h => h))
 have b1 := Lh (k1.blk HB.out (by have := HGN.out; omega))
 have d1 := b1.out.cell 1; have f1 := b1.out.frozen 1
 have R1 := Lh h1
 clear h1 k1 x0 x1 x2 x3 HB HX
 unfold NC at d1
 simp only [g0, gs] at d1
 go_wp2_with fail
 have k2 : Kp (fun k => k = nb) w1 (w1.setCell ⟨nb, 1, none⟩ (sv s.loc.1)) := Kp.setCell _ _ _ rfl
 refine bodyPost_end (v := .tuple #[]) (res_none rfl _ _) rfl ⟨m.setText s.loc.1, s.loc.2, rfl, by first | (rw [HLO.out, HHI.out]; exact pe_loc) | exact pe_loc, R1.out.kp k2 (by have := HGN.out; omega) (fun k hk => by have := R1.out.hg; have := HGN.out; omega), ⟨v, xs, ?_, ?_, ?_⟩, (K1.out.mono (Z' := fun k => k = g ∨ k = nb ∨ nb + 2 ≤ k) (fun k _ e => Or.inl e)).trans k2 (fun k _ e => Or.inr (Or.inl e)), mu_loc s, ?_⟩
 ·
  obtain ⟨mk, mt, mz, ml⟩ := m
  exact b1.out.put 1 _
 ·
  obtain ⟨mk, mt, mz, ml⟩ := m
  exact (HKR.out.kp K1.out (fun j e => by have := HGN.out; omega)).kp k2 (fun j e => by omega)
 ·
  obtain ⟨mk, mt, mz, ml⟩ := m
  exact ⟨HFn.out.k0, HFn.out.k1, HFn.out.z0, HFn.out.z1, by have := HLN.out; exact Nat.le_trans this (by omega)⟩
 ·
  have := mu_loc s
  obtain ⟨mk, mt, mz, ml⟩ := m
  show ml.length + _ ≤ ml.length + _ + 1
  omega
set_option maxHeartbeats 4000000 in
theorem part_d (h : RS B w g T E s) {nb : Nat} {m : Nd} (hp : PN w nb m) (hgn : g < nb) (wd ps : Str) (kd : Nat) (i : Nat) (hi : ps[i]? = some 100) (hl : ps.length ≤ 100) (hh0 : (Src.shape kd).high ≤ 1000) : Calls Tryd.prog 52 #[pt g, pt nb, SV wd ps (Src.shape kd).low (Src.shape kd).high, nv i] w (PtOut B w g T E nb kd 100 m s 1) := by
 obtain ⟨v, xs, hb, hk, hf⟩ := hp
 obtain ⟨hi1, hix⟩ := byte_ix hi
 have hsz : (⟨ps.toArray⟩ : ByteArray).size = ps.length := rfl
 have hiI : (i : Int) < (ps.length : Int) := by omega
 obtain ⟨lo, hlo⟩ : ∃ lo, lo = (Src.shape kd).low := ⟨_, rfl⟩
 obtain ⟨hi', hhi⟩ : ∃ lo, lo = (Src.shape kd).high := ⟨_, rfl⟩
 have hh : hi' ≤ 1000 := by rw [hhi]; exact hh0
 rw [← hlo, ← hhi]
 have HLO := Lh hlo; have HHI := Lh hhi
 have HW := Lh ((Below.refl w.heap.size w).alloc (Nat.le_refl _) (.cells [sv wd, sv ps, nv lo, nv hi'].toArray 82))
 change Hid (Below w.heap.size w (w.alloc (.cells #[sv wd, sv ps, nv lo, nv hi'] 82))) at HW
 have HX := Lh (Blk.new w 82 [sv wd, sv ps, nv lo, nv hi'])
 change Hid (Blk (w.alloc (.cells #[sv wd, sv ps, nv lo, nv hi'] 82)) w.heap.size 82 [sv wd, sv ps, nv lo, nv hi']) at HX
 have HC := Lh (numeral_any (h.below HW.out) wd ps lo hi')
 have HB := Lh (hb.below HW.out hb.lt)
 have HGN := Lh hgn; have HKR := Lh hk; have HFn := Lh hf; have HI := Lh hi1
 have HLN := Lh (And.intro (numeral_val s lo hi') hh)
 clear hh hh0 hb hk hf hgn hi h hlo hhi hi1 hl
 go_enter Tryd.func52, Tryd.ntmps52
 go_upto_region 1 with fail
 generalize w.alloc (.cells #[sv wd, sv ps, nv lo, nv hi'] 82) = w0 at HW HC HB HX ⊢
 obtain ⟨x0, x1, x2, x3⟩ : w0.cell? ⟨w.heap.size, 0, none⟩ = some (sv wd) ∧ w0.cell? ⟨w.heap.size, 1, none⟩ = some (sv ps) ∧ w0.cell? ⟨w.heap.size, 2, none⟩ = some (nv lo) ∧ w0.cell? ⟨w.heap.size, 3, none⟩ = some (nv hi') := ⟨HX.out.cell 0, HX.out.cell 1, HX.out.cell 2, HX.out.cell 3⟩
 go_wp2_with fail
 refine HC.out.mono ?_
 rintro e w1 ⟨rfl, h1, k1⟩
 have K1 := Lh ((Kp.of_below' HW.out).trans k1 (fun _ _ h => h))
 have b1 := Lh (k1.blk HB.out (by have := HGN.out; omega))
 have d1 := b1.out.cell 2; have f1 := b1.out.frozen 2
 have R1 := Lh h1
 clear h1 k1 x0 x1 x2 x3 HB HX
 unfold NC at d1
 simp only [g0, gs] at d1
 go_wp2_with fail
 have k2 : Kp (fun k => k = nb) w1 (w1.setCell ⟨nb, 2, none⟩ (iv (s.numeral lo hi').1)) := Kp.setCell _ _ _ rfl
 refine bodyPost_end (v := .tuple #[]) (res_none rfl _ _) rfl ⟨m.setNum (s.numeral lo hi').1, (s.numeral lo hi').2, rfl, by first | (rw [HLO.out, HHI.out]; exact pe_num) | exact pe_num, R1.out.kp k2 (by have := HGN.out; omega) (fun k hk => by have := R1.out.hg; have := HGN.out; omega), ⟨v, xs, ?_, ?_, ?_⟩, (K1.out.mono (Z' := fun k => k = g ∨ k = nb ∨ nb + 2 ≤ k) (fun k _ e => Or.inl e)).trans k2 (fun k _ e => Or.inr (Or.inl e)), mu_numeral s lo hi', ?_⟩
 ·
  obtain ⟨mk, mt, mz, ml⟩ := m
  exact b1.out.put 2 _
 ·
  obtain ⟨mk, mt, mz, ml⟩ := m
  exact (HKR.out.kp K1.out (fun j e => by have := HGN.out; omega)).kp k2 (fun j e => by omega)
 ·
  obtain ⟨mk, mt, mz, ml⟩ := m
  exact ⟨HFn.out.k0, HFn.out.k1, by have := HLN.out; show (-9223372036854775808 : Int) ≤ (s.numeral lo hi').1; omega, by have := HLN.out; show (s.numeral lo hi').1 ≤ (9223372036854775807 : Int); omega, HFn.out.t1⟩
 ·
  have := mu_numeral s lo hi'
  obtain ⟨mk, mt, mz, ml⟩ := m
  show ml.length + _ ≤ ml.length + _ + 1
  omega
set_option maxHeartbeats 4000000 in
theorem part_z (h : RS B w g T E s) {nb : Nat} {m : Nd} (hp : PN w nb m) (hgn : g < nb) (wd ps : Str) (kd : Nat) (i : Nat) (hi : ps[i]? = some 122) (hl : ps.length ≤ 100) (hh0 : (Src.shape kd).high ≤ 1000) : Calls Tryd.prog 52 #[pt g, pt nb, SV wd ps (Src.shape kd).low (Src.shape kd).high, nv i] w (PtOut B w g T E nb kd 122 m s 1) := by
 obtain ⟨v, xs, hb, hk, hf⟩ := hp
 obtain ⟨hi1, hix⟩ := byte_ix hi
 have hsz : (⟨ps.toArray⟩ : ByteArray).size = ps.length := rfl
 have hiI : (i : Int) < (ps.length : Int) := by omega
 obtain ⟨lo, hlo⟩ : ∃ lo, lo = (Src.shape kd).low := ⟨_, rfl⟩
 obtain ⟨hi', hhi⟩ : ∃ lo, lo = (Src.shape kd).high := ⟨_, rfl⟩
 have hh : hi' ≤ 1000 := by rw [hhi]; exact hh0
 rw [← hlo, ← hhi]
 have HLO := Lh hlo; have HHI := Lh hhi
 have HW := Lh ((Below.refl w.heap.size w).alloc (Nat.le_refl _) (.cells [sv wd, sv ps, nv lo, nv hi'].toArray 82))
 change Hid (Below w.heap.size w (w.alloc (.cells #[sv wd, sv ps, nv lo, nv hi'] 82))) at HW
 have HX := Lh (Blk.new w 82 [sv wd, sv ps, nv lo, nv hi'])
 change Hid (Blk (w.alloc (.cells #[sv wd, sv ps, nv lo, nv hi'] 82)) w.heap.size 82 [sv wd, sv ps, nv lo, nv hi']) at HX
 have HC := Lh (number_any (h.below HW.out) wd ps lo hi' hh)
 have HB := Lh (hb.below HW.out hb.lt)
 have HGN := Lh hgn; have HKR := Lh hk; have HFn := Lh hf; have HI := Lh hi1
 have HLN := Lh (And.intro (number_val s lo hi') hh)
 clear hh hh0 hb hk hf hgn hi h hlo hhi hi1 hl
 go_enter Tryd.func52, Tryd.ntmps52
 go_upto_region 1 with fail
 generalize w.alloc (.cells #[sv wd, sv ps, nv lo, nv hi'] 82) = w0 at HW HC HB HX ⊢
 obtain ⟨x0, x1, x2, x3⟩ : w0.cell? ⟨w.heap.size, 0, none⟩ = some (sv wd) ∧ w0.cell? ⟨w.heap.size, 1, none⟩ = some (sv ps) ∧ w0.cell? ⟨w.heap.size, 2, none⟩ = some (nv lo) ∧ w0.cell? ⟨w.heap.size, 3, none⟩ = some (nv hi') := ⟨HX.out.cell 0, HX.out.cell 1, HX.out.cell 2, HX.out.cell 3⟩
 go_wp2_with fail
 refine HC.out.mono ?_
 rintro e w1 ⟨rfl, h1, k1⟩
 have K1 := Lh ((Kp.of_below' HW.out).trans k1 (fun _ _ h => h))
 have b1 := Lh (k1.blk HB.out (by have := HGN.out; omega))
 have d1 := b1.out.cell 2; have f1 := b1.out.frozen 2
 have R1 := Lh h1
 clear h1 k1 x0 x1 x2 x3 HB HX
 unfold NC at d1
 simp only [g0, gs] at d1
 go_wp2_with fail
 have k2 : Kp (fun k => k = nb) w1 (w1.setCell ⟨nb, 2, none⟩ (iv (s.number lo hi').1)) := Kp.setCell _ _ _ rfl
 refine bodyPost_end (v := .tuple #[]) (res_none rfl _ _) rfl ⟨m.setNum (s.number lo hi').1, (s.number lo hi').2, rfl, by first | (rw [HLO.out, HHI.out]; exact pe_zed) | exact pe_zed, R1.out.kp k2 (by have := HGN.out; omega) (fun k hk => by have := R1.out.hg; have := HGN.out; omega), ⟨v, xs, ?_, ?_, ?_⟩, (K1.out.mono (Z' := fun k => k = g ∨ k = nb ∨ nb + 2 ≤ k) (fun k _ e => Or.inl e)).trans k2 (fun k _ e => Or.inr (Or.inl e)), mu_number s lo hi', ?_⟩
 ·
  obtain ⟨mk, mt, mz, ml⟩ := m
  exact b1.out.put 2 _
 ·
  obtain ⟨mk, mt, mz, ml⟩ := m
  exact (HKR.out.kp K1.out (fun j e => by have := HGN.out; omega)).kp k2 (fun j e => by omega)
 ·
  obtain ⟨mk, mt, mz, ml⟩ := m
  exact ⟨HFn.out.k0, HFn.out.k1, by have := HLN.out; show (-9223372036854775808 : Int) ≤ (s.number lo hi').1; omega, by have := HLN.out; show (s.number lo hi').1 ≤ (9223372036854775807 : Int); omega, HFn.out.t1⟩
 ·
  have := mu_number s lo hi'
  obtain ⟨mk, mt, mz, ml⟩ := m
  show ml.length + _ ≤ ml.length + _ + 1
  omega
end
end Go.Proofs.YtpbhgebblpdmnaaDoor
