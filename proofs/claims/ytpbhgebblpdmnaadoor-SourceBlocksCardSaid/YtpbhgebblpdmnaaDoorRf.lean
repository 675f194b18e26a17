/-
  The contract of read.
  No condition but the lengths.
-/
import Derived.Test.YtpbhgebblpdmnaaDoorZ
import Derived.Test.YtpbhgebblpdmnaaDoorGRdrDf
namespace Go.Proofs.YtpbhgebblpdmnaaDoor
open Go.RowKit Wr Src
set_option linter.unusedVariables false
set_option maxRecDepth 100000
theorem box_res3 {P : Program} {fn : Func} {p u1 u2 : Tmp} {T : TypeId} (n : Nat) (hs : (P.info? T).map (·.size) = some n) (h : fn.results = #[.cell p T, .tmp u1, .tmp u2]) (tmps : Array Value) (w : World) (g : Nat) (cs : List Value) (d : TypeDesc) {a b : Value}
  (hp : tmps.getD p undef = .pointer (some ⟨g, 0, none⟩)) (ha : tmps.getD u1 undef = a) (hb' : tmps.getD u2 undef = b) (hb : Blk w g T cs) (hl : cs.length = n) (hu : P.underlying T = some d) (hd : (match d with | .struct _ | .array _ _ => true | _ => false) = true) :
  (results fn tmps).run P w = .ok (.tuple #[.agg cs.toArray, a, b]) w := by
 subst ha hb'
 have hp' : tmps[p]?.getD undef = .pointer (some ⟨g, 0, none⟩) := by simpa using hp
 simp [results, h, hp', asAddr, run_loadVar_row w g T T cs.toArray (0, 0) d hb hu hd (by rw [hs, List.size_toArray, hl])]
def RdIs (S : Str) (n : Nd) (p e : Nat) : Prop := ∃ n' s', Ev (fun k => rdDef k ⟨(LX S 0).1, 0⟩) (n', s') ∧ LXI S (LX S 0).2 s' ∧
 ((s'.at' (LX S 0).2 < S.length ∨ s'.e ≠ 0) → n = .zero ∧ p = s'.at' (LX S 0).2 ∧ e = (if s'.e = 0 then 2 else s'.e)) ∧
 (¬ (s'.at' (LX S 0).2 < S.length ∨ s'.e ≠ 0) → n = n' ∧ p = 0 ∧ e = 0)
theorem zc_all : (#[.int .i64 0, .string ⟨#[]⟩, .int .i64 0, .slice none 0 0] : Array Value).all (·.oneCell') = true := by
 simpa using (show ([.int .i64 0, .string ⟨#[]⟩, .int .i64 0, .slice none 0 0] : List Value).all (·.oneCell') = true from rfl)
def RdPost (S : Str) (w : World) (en : Ending) (w' : World) : Prop := ∃ n p e cs, en = .returned (.tuple #[.agg cs.toArray, nv p, nv e]) ∧ RdIs S n p e ∧ NV w' (fun k => w.heap.size ≤ k) n cs ∧ Below w.heap.size w w'
section
variable {B : Nat}
set_option maxHeartbeats 4000000 in
theorem read_any (S : Str) (w : World) (ht : Tab B w) (hl : S.length ≤ 4294967295) : Calls Tryd.prog 17 #[sv S] w (RdPost S w) := by
 have z1 := zero25
 have z2 := zero65
 obtain ⟨E, hE⟩ : ∃ E, E = (LX S 0).2 := ⟨_, rfl⟩
 obtain ⟨s, hs⟩ : ∃ s : St, s = ⟨(LX S 0).1, 0⟩ := ⟨_, rfl⟩
 have HX := Lh (show LXI S E s by rw [hs, hE]; exact LXI.start S 0)
 have HSE := Lh (And.intro hs hE)
 obtain ⟨wb, hwb⟩ : ∃ wb, wb = w.heap.size := ⟨_, rfl⟩
 have HWB := Lh hwb
 have HWb := Lh hwb.symm
 obtain ⟨w0, hw0⟩ : ∃ w0, w0 = w.alloc (.cells #[.int .i64 0, .string ⟨#[]⟩, .int .i64 0, .slice none 0 0] 25) := ⟨_, rfl⟩
 have l0 : Below w.heap.size w w0 := by rw [hw0]; exact (Below.refl _ _).alloc (Nat.le_refl _) _
 have Z0 := Lh (show Blk w0 wb 25 [.int .i64 0, .string ⟨#[]⟩, .int .i64 0, .slice none 0 0] by rw [hw0, hwb]; exact Blk.new w _ _)
 have L0 := Lh l0
 have S0 := Lh (show w0.heap.size = wb + 1 by rw [hw0, hwb]; simp)
 have W0 := Lh hw0
 have HB0 := Lh ht.hw
 have T0 := Lh (ht.below l0)
 have HS : Hid (Calls Tryd.prog 32 #[sv S, nv 0] w0 fun en w' => en = .returned (.agg #[nv (cls s.look), sv s.look, nv (s.at' E), nv (opOf s.look).1, iv (kdOf s.look)]) ∧ Below w0.heap.size w0 w') := Lh (by
  refine (scan_any S 0 w0 T0.out (Nat.zero_le _) hl).mono fun en w' ⟨h2, h3⟩ => ⟨?_, h3⟩
  rw [h2, List.drop_zero]
  unfold tokV St.at' St.look
  rw [hs, hE]
  dsimp only
  rw [if_pos rfl]
  generalize LX S 0 = r
  obtain ⟨r1, r2⟩ := r
  cases r1 with
  | nil => rfl
  | cons x R => rfl)
 have HL := Lh hl
 have HDr : S.length ≤ 4294967295 := hl
 clear ht hl hs hE hwb hw0 l0
 go_enter Tryd.func17, Tryd.ntmps17
 go_upto_region 1 with fail
 rw [← W0.out, HWb.out]
 have K0 := Lh (Kp.of_below' (Z := fun _ => False) L0.out)
 go_wp2_with fail
 refine HS.out.mono ?_
 rintro e w1 ⟨rfl, k1⟩
 have Z1 := Lh (Z0.out.below k1 Z0.out.lt)
 have T1 := Lh (T0.out.below k1)
 have K1 := Lh (K0.out.trans (Kp.of_below' (Z := fun _ => False) k1) (fun _ _ h => h))
 have S1 := Lh (show wb + 1 ≤ w1.heap.size by rw [← S0.out]; exact k1.size)
 clear k1 Z0 K0 S0 HS T0
 go_upto_region 2 with fail
 obtain ⟨g, hg⟩ : ∃ g, w1.heap.size = g := ⟨_, rfl⟩
 obtain ⟨w2, hw2⟩ : ∃ w2, w1.alloc (.cells #[.string ⟨S.toArray⟩, nv (cls s.look), .string ⟨s.look.toArray⟩, nv (s.at' E), nv (opOf s.look).1, iv (kdOf s.look), nv 0] 65) = w2 := ⟨_, rfl⟩
 have hb2 := show Below w1.heap.size w1 w2 by rw [← hw2]; exact (Below.refl _ _).alloc (Nat.le_refl _) _
 have R2 := Lh (show RS B w2 g S E s from ⟨by
   have : Blk w2 g 65 [.string ⟨S.toArray⟩, nv (cls s.look), .string ⟨s.look.toArray⟩, nv (s.at' E), nv (opOf s.look).1, iv (kdOf s.look), nv 0] := by rw [← hw2, ← hg]; exact Blk.new w1 _ _
   have e0 : s.e = 0 := by rw [HSE.out.1]
   unfold RC
   rw [e0]
   exact this, HX.out, T1.out.below hb2, HL.out, by have := HB0.out; have := HWB.out; have := S1.out; omega⟩)
 have HG := Lh (show wb < g by have := S1.out; omega)
 have Z2 := Lh (Z1.out.below hb2 Z1.out.lt)
 have K2 := Lh (K1.out.trans (Kp.of_below' (Z := fun _ => False) hb2) (fun _ _ h => h))
 have T2 := Lh (show g + 1 = w2.heap.size by rw [← hw2, ← hg]; simp)
 rw [hg]
 change Code.wp _ _ _ _ (w1.alloc (.cells #[.string ⟨S.toArray⟩, nv (cls s.look), .string ⟨s.look.toArray⟩, nv (s.at' E), nv (opOf s.look).1, iv (kdOf s.look), nv 0] 65))
 rw [hw2]
 clear hb2 hw2 hg Z1 T1 K1 S1
 have HD := Lh (definition_any R2.out)
 go_wp2_with fail
 refine HD.out.mono ?_
 rintro e w3 ⟨n5, s5, cs5, rfl, f1, h5, hv5, k5⟩
 obtain ⟨nk, nt, nz, nl⟩ := n5
 obtain ⟨A1, c1, ys1, hcs, _⟩ := hv5.form
 subst hcs
 have F3 := Lh f1
 have R3 := Lh h5
 have Z3 := Lh (k5.blk Z2.out (by have := HG.out; omega))
 have V3 := Lh (NV.keep (P' := fun k => g + 1 ≤ k ∧ k < w3.heap.size) (fun k h1 h2 => ⟨rfl, by have := T2.out; omega, h2⟩) _ _ hv5)
 have K3 := Lh (K2.out.trans k5 (fun k hk e => by have := HWB.out; have := HG.out; omega))
 clear f1 h5 hv5 k5 Z2 K2 T2 R2 HD
 dsimp only [NC]
 go_upto_region 3 with fail
 have HEv := Lh (show Ev (fun k => rdDef k ⟨(LX S 0).1, 0⟩) (.mk nk nt nz nl, s5) by rw [← HSE.out.1]; exact F3.out)
 have HX5 := Lh (show LXI S (LX S 0).2 s5 by rw [← HSE.out.2]; exact R3.out.x)
 obtain ⟨nb, hnb⟩ : ∃ g, w3.heap.size = g := ⟨_, rfl⟩
 obtain ⟨w4, hw4⟩ : ∃ w4, w3.alloc (.cells #[.int .i64 nk, .string ⟨nt.toArray⟩, .int .i64 nz, .slice A1 nl.length c1] 25) = w4 := ⟨_, rfl⟩
 have hb4 := show Below w3.heap.size w3 w4 by rw [← hw4]; exact (Below.refl _ _).alloc (Nat.le_refl _) _
 have N4 := Lh (show Blk w4 nb 25 [iv nk, sv nt, iv nz, .slice A1 nl.length c1] by rw [← hw4, ← hnb]; exact Blk.new w3 _ _)
 have HNB := Lh (show g < nb by rw [← hnb]; exact R3.out.lt)
 have R4 := Lh (R3.out.below hb4)
 have Z4 := Lh (Z3.out.below hb4 Z3.out.lt)
 have K4 := Lh (K3.out.trans (Kp.of_below' (Z := fun _ => False) hb4) (fun _ _ h => h))
 have V4 := Lh (show NV w4 (fun k => g + 1 ≤ k ∧ k < nb) (.mk nk nt nz nl) (NC nk nt nz (.slice A1 nl.length c1)) from NV.keep (fun k h1 h2 => ⟨hb4.block k h2, by rw [← hnb]; exact h1⟩) _ _ V3.out)
 rw [hnb, hw4]
 clear hb4 hw4 hnb R3 Z3 K3 V3 F3
 have HSE2 := Lh HSE.out.2
 have hat := R4.out.x.at_le
 have c3 := R4.out.b.cell 3; have c6 := R4.out.b.cell 6
 unfold RC at c3 c6
 simp only [g0, gs] at c3 c6
 have hS : (⟨S.toArray⟩ : ByteArray).size = S.length := rfl
 by_cases hlt : s5.at' E < S.length
 ·
  have hltI : ((s5.at' E : Nat) : Int) < (S.length : Int) := by omega
  have HFa := Lh (fail_any R4.out 2 (by omega) (by omega))
  have HEN := Lh (show (s5.fail 2).e = (if s5.e = 0 then 2 else s5.e) by unfold St.fail; split <;> simp_all)
  have HRI : Hid (RdIs S .zero (s5.at' E) (s5.fail 2).e) := Lh ⟨_, s5, HEv.out, HX5.out, fun _ => ⟨rfl, by rw [← HSE2.out], HEN.out⟩, fun h => absurd (Or.inl (by rw [← HSE2.out]; exact hlt)) h⟩
  have hne : (s5.fail 2).e ≠ 0 := fail_e (by omega)
  clear hlt hat
  go_upto_region 4 with fail
  clear c3 c6
  go_wp2_with fail
  refine HFa.out.mono ?_
  rintro e w5 ⟨rfl, h5, k5⟩
  have R5 := Lh h5
  have Z5 := Lh (k5.blk Z4.out (by have := HG.out; omega))
  have K5 := Lh (K4.out.trans k5 (fun k hk e => by have := HWB.out; have := HG.out; omega))
  clear h5 k5 HFa R4 Z4 K4 V4 N4
  obtain ⟨s4, hs4⟩ : ∃ x, x = s5.fail 2 := ⟨_, rfl⟩
  obtain ⟨at_, ha⟩ : ∃ x, x = s5.at' E := ⟨_, rfl⟩
  obtain ⟨e4, he4⟩ : ∃ x, x = s4.e := ⟨_, rfl⟩
  have HA4 := Lh (show s4.at' E = at_ by rw [hs4, at_fail, ha])
  have HE4 := Lh he4.symm
  rw [← hs4, ← he4, ← ha] at HRI
  rw [← hs4, ← he4] at hne
  rw [← hs4] at R5
  have R4 := R5; have Z4 := Z5; have K4 := K5
  clear R5 Z5 K5 hs4 ha he4
  obtain ⟨w4, hw4⟩ : ∃ x, x = w5 := ⟨_, rfl⟩
  rw [← hw4] at R4 Z4 K4 ⊢
  clear hw4
  have HFb : Hid (∀ w', Below w.heap.size w w' → RdPost S w (.returned (.tuple #[.agg (NC 0 [] 0 (.slice none 0 0)).toArray, nv at_, nv e4])) w') := Lh (fun w' hw' => by exact ⟨_, _, _, _, rfl, HRI.out, zero_nv _ _, hw'⟩)
  have hneI : (((e4 : Nat) : Int) == 0) = false := by rw [beq_eq_false_iff_ne]; omega
  have hneJ : (((e4 : Nat) : Int) != 0) = true := by rw [bne, hneI]; rfl
  clear hne
  have c6 := R4.out.b.cell 6
  unfold RC at c6
  simp only [g0, gs] at c6
  rw [HE4.out] at c6
  go_upto_region 6 with fail
  clear c6
  refine wp_region_any (by kernel_rfl) ?_
  change wpAny _ _ _ _ _ _ _ (World.drew w4)
  have Zd := Lh (show Blk (World.drew w4) wb 25 [.int .i64 0, .string ⟨#[]⟩, .int .i64 0, .slice none 0 0] from Z4.out)
  have Rd := Lh (show Blk (World.drew w4) g 65 (RC S E s4) from R4.out.b)
  have Kd := Lh (K4.out.trans (Kp.drew (fun _ => False) w4) (fun _ _ h => h.elim))
  generalize World.drew w4 = wd at Zd Rd Kd ⊢
  refine tg 0 (.agg #[.int .i64 0, .string ⟨#[]⟩, .int .i64 0, .slice none 0 0]) ?_
  refine tg 1 (.pointer (some ⟨g, 1, none⟩)) ?_
  refine tg 2 (.pointer (some ⟨g, 3, none⟩)) ?_
  refine tg 4 (.pointer (some ⟨g, 6, none⟩)) ?_
  refine rm [3, 5, 6] (ac (fun K hK => ?_) (ac (fun K hK => ?_) (ac (fun K hK => ?_) AllReady.nil)))
  ·
   have c3 := Rd.out.cell 3; have c6 := Rd.out.cell 6
   unfold RC at c3 c6
   simp only [g0, gs] at c3 c6
   rw [HA4.out] at c3
   rw [HE4.out] at c6
   go_simp
   clear c3 c6
   try (refine hk hK ?_; clear hK K)
   refine rm [5, 6] (ac (fun K hK => ?_) (ac (fun K hK => ?_) AllReady.nil))
   ·
    have c3 := Rd.out.cell 3; have c6 := Rd.out.cell 6
    unfold RC at c3 c6
    simp only [g0, gs] at c3 c6
    rw [HA4.out] at c3
    rw [HE4.out] at c6
    go_simp
    clear c3 c6
    try (refine hk hK ?_; clear hK K)
    refine r1 6 (fun K hK => ?_)
    refine wp_store_row 25 (.tmp 2) (.tmp 22) rfl wb #[.int .i64 0, .string ⟨#[]⟩, .int .i64 0, .slice none 0 0] rfl rfl _ _ Zd.out (by rw [size25]; rfl) rfl zc_all (hK _ _ ?_)
    clear hK K
    obtain ⟨w95, hw9⟩ : ∃ w9, w9 = wd.setRow wb #[.int .i64 0, .string ⟨#[]⟩, .int .i64 0, .slice none 0 0] := ⟨_, rfl⟩
    have b96 := Lh (show Blk w95 wb 25 [.int .i64 0, .string ⟨#[]⟩, .int .i64 0, .slice none 0 0] by rw [hw9]; exact Blk.row Zd.out _)
    have k9 := (show Kp (fun k => k = wb) wd w95 by rw [hw9]; exact Blk.kpRow _)
    have k97 := Lh (Kd.out.trans k9 (fun k hk e => by have := HWB.out; omega))
    have R98 := Lh (k9.blk Rd.out (by have := HG.out; omega))
    rw [← hw9]
    clear hw9 k9
    try (refine hk hK ?_; clear hK K)
    refine tg 7 (nv at_) ?_
    refine tg 8 (nv e4) ?_
    refine wpAny_done (by kernel_rfl) ?_ _
    try simp only [zp, zn, zu, zv, zw]
    go_wp2_with fail
    refine bodyPost_ret (v := .tuple #[.agg (NC 0 [] 0 (.slice none 0 0)).toArray, nv at_, nv e4]) (box_res3 4 size25 rfl _ _ wb (NC 0 [] 0 (.slice none 0 0)) _ rfl rfl rfl b96.out rfl Tryd.underlying25 rfl) rfl (HFb.out w95 ?_)
    exact k97.out.below (Nat.le_refl _) (fun k hk e => e)
   ·
    refine wp_store_row 25 (.tmp 2) (.tmp 22) rfl wb #[.int .i64 0, .string ⟨#[]⟩, .int .i64 0, .slice none 0 0] rfl rfl _ _ Zd.out (by rw [size25]; rfl) rfl zc_all (hK _ _ ?_)
    clear hK K
    obtain ⟨w911, hw9⟩ : ∃ w9, w9 = wd.setRow wb #[.int .i64 0, .string ⟨#[]⟩, .int .i64 0, .slice none 0 0] := ⟨_, rfl⟩
    have b912 := Lh (show Blk w911 wb 25 [.int .i64 0, .string ⟨#[]⟩, .int .i64 0, .slice none 0 0] by rw [hw9]; exact Blk.row Zd.out _)
    have k9 := (show Kp (fun k => k = wb) wd w911 by rw [hw9]; exact Blk.kpRow _)
    have k913 := Lh (Kd.out.trans k9 (fun k hk e => by have := HWB.out; omega))
    have R914 := Lh (k9.blk Rd.out (by have := HG.out; omega))
    rw [← hw9]
    clear hw9 k9
    try (refine hk hK ?_; clear hK K)
    refine tg 7 (nv at_) ?_
    refine r1 5 (fun K hK => ?_)
    have c3 := R914.out.cell 3; have c6 := R914.out.cell 6
    unfold RC at c3 c6
    simp only [g0, gs] at c3 c6
    rw [HA4.out] at c3
    rw [HE4.out] at c6
    go_simp
    clear c3 c6
    try (refine hk hK ?_; clear hK K)
    refine tg 8 (nv e4) ?_
    refine wpAny_done (by kernel_rfl) ?_ _
    try simp only [zp, zn, zu, zv, zw]
    go_wp2_with fail
    refine bodyPost_ret (v := .tuple #[.agg (NC 0 [] 0 (.slice none 0 0)).toArray, nv at_, nv e4]) (box_res3 4 size25 rfl _ _ wb (NC 0 [] 0 (.slice none 0 0)) _ rfl rfl rfl b912.out rfl Tryd.underlying25 rfl) rfl (HFb.out w911 ?_)
    exact k913.out.below (Nat.le_refl _) (fun k hk e => e)
  ·
   have c3 := Rd.out.cell 3; have c6 := Rd.out.cell 6
   unfold RC at c3 c6
   simp only [g0, gs] at c3 c6
   rw [HA4.out] at c3
   rw [HE4.out] at c6
   go_simp
   clear c3 c6
   try (refine hk hK ?_; clear hK K)
   refine rm [3, 6] (ac (fun K hK => ?_) (ac (fun K hK => ?_) AllReady.nil))
   ·
    have c3 := Rd.out.cell 3; have c6 := Rd.out.cell 6
    unfold RC at c3 c6
    simp only [g0, gs] at c3 c6
    rw [HA4.out] at c3
    rw [HE4.out] at c6
    go_simp
    clear c3 c6
    try (refine hk hK ?_; clear hK K)
    refine r1 6 (fun K hK => ?_)
    refine wp_store_row 25 (.tmp 2) (.tmp 22) rfl wb #[.int .i64 0, .string ⟨#[]⟩, .int .i64 0, .slice none 0 0] rfl rfl _ _ Zd.out (by rw [size25]; rfl) rfl zc_all (hK _ _ ?_)
    clear hK K
    obtain ⟨w917, hw9⟩ : ∃ w9, w9 = wd.setRow wb #[.int .i64 0, .string ⟨#[]⟩, .int .i64 0, .slice none 0 0] := ⟨_, rfl⟩
    have b918 := Lh (show Blk w917 wb 25 [.int .i64 0, .string ⟨#[]⟩, .int .i64 0, .slice none 0 0] by rw [hw9]; exact Blk.row Zd.out _)
    have k9 := (show Kp (fun k => k = wb) wd w917 by rw [hw9]; exact Blk.kpRow _)
    have k919 := Lh (Kd.out.trans k9 (fun k hk e => by have := HWB.out; omega))
    have R920 := Lh (k9.blk Rd.out (by have := HG.out; omega))
    rw [← hw9]
    clear hw9 k9
    try (refine hk hK ?_; clear hK K)
    refine tg 7 (nv at_) ?_
    refine tg 8 (nv e4) ?_
    refine wpAny_done (by kernel_rfl) ?_ _
    try simp only [zp, zn, zu, zv, zw]
    go_wp2_with fail
    refine bodyPost_ret (v := .tuple #[.agg (NC 0 [] 0 (.slice none 0 0)).toArray, nv at_, nv e4]) (box_res3 4 size25 rfl _ _ wb (NC 0 [] 0 (.slice none 0 0)) _ rfl rfl rfl b918.out rfl Tryd.underlying25 rfl) rfl (HFb.out w917 ?_)
    exact k919.out.below (Nat.le_refl _) (fun k hk e => e)
   ·
    refine wp_store_row 25 (.tmp 2) (.tmp 22) rfl wb #[.int .i64 0, .string ⟨#[]⟩, .int .i64 0, .slice none 0 0] rfl rfl _ _ Zd.out (by rw [size25]; rfl) rfl zc_all (hK _ _ ?_)
    clear hK K
    obtain ⟨w923, hw9⟩ : ∃ w9, w9 = wd.setRow wb #[.int .i64 0, .string ⟨#[]⟩, .int .i64 0, .slice none 0 0] := ⟨_, rfl⟩
    have b924 := Lh (show Blk w923 wb 25 [.int .i64 0, .string ⟨#[]⟩, .int .i64 0, .slice none 0 0] by rw [hw9]; exact Blk.row Zd.out _)
    have k9 := (show Kp (fun k => k = wb) wd w923 by rw [hw9]; exact Blk.kpRow _)
    have k925 := Lh (Kd.out.trans k9 (fun k hk e => by have := HWB.out; omega))
    have R926 := Lh (k9.blk Rd.out (by have := HG.out; omega))
    rw [← hw9]
    clear hw9 k9
    try (refine hk hK ?_; clear hK K)
    refine r1 3 (fun K hK => ?_)
    have c3 := R926.out.cell 3; have c6 := R926.out.cell 6
    unfold RC at c3 c6
    simp only [g0, gs] at c3 c6
    rw [HA4.out] at c3
    rw [HE4.out] at c6
    go_simp
    clear c3 c6
    try (refine hk hK ?_; clear hK K)
    refine tg 7 (nv at_) ?_
    refine tg 8 (nv e4) ?_
    refine wpAny_done (by kernel_rfl) ?_ _
    try simp only [zp, zn, zu, zv, zw]
    go_wp2_with fail
    refine bodyPost_ret (v := .tuple #[.agg (NC 0 [] 0 (.slice none 0 0)).toArray, nv at_, nv e4]) (box_res3 4 size25 rfl _ _ wb (NC 0 [] 0 (.slice none 0 0)) _ rfl rfl rfl b924.out rfl Tryd.underlying25 rfl) rfl (HFb.out w923 ?_)
    exact k925.out.below (Nat.le_refl _) (fun k hk e => e)
  ·
   refine wp_store_row 25 (.tmp 2) (.tmp 22) rfl wb #[.int .i64 0, .string ⟨#[]⟩, .int .i64 0, .slice none 0 0] rfl rfl _ _ Zd.out (by rw [size25]; rfl) rfl zc_all (hK _ _ ?_)
   clear hK K
   obtain ⟨w929, hw9⟩ : ∃ w9, w9 = wd.setRow wb #[.int .i64 0, .string ⟨#[]⟩, .int .i64 0, .slice none 0 0] := ⟨_, rfl⟩
   have b930 := Lh (show Blk w929 wb 25 [.int .i64 0, .string ⟨#[]⟩, .int .i64 0, .slice none 0 0] by rw [hw9]; exact Blk.row Zd.out _)
   have k9 := (show Kp (fun k => k = wb) wd w929 by rw [hw9]; exact Blk.kpRow _)
   have k931 := Lh (Kd.out.trans k9 (fun k hk e => by have := HWB.out; omega))
   have R932 := Lh (k9.blk Rd.out (by have := HG.out; omega))
   rw [← hw9]
   clear hw9 k9
   try (refine hk hK ?_; clear hK K)
   refine rm [3, 5] (ac (fun K hK => ?_) (ac (fun K hK => ?_) AllReady.nil))
   ·
    have c3 := R932.out.cell 3; have c6 := R932.out.cell 6
    unfold RC at c3 c6
    simp only [g0, gs] at c3 c6
    rw [HA4.out] at c3
    rw [HE4.out] at c6
    go_simp
    clear c3 c6
    try (refine hk hK ?_; clear hK K)
    refine tg 7 (nv at_) ?_
    refine r1 5 (fun K hK => ?_)
    have c3 := R932.out.cell 3; have c6 := R932.out.cell 6
    unfold RC at c3 c6
    simp only [g0, gs] at c3 c6
    rw [HA4.out] at c3
    rw [HE4.out] at c6
    go_simp
    clear c3 c6
    try (refine hk hK ?_; clear hK K)
    refine tg 8 (nv e4) ?_
    refine wpAny_done (by kernel_rfl) ?_ _
    try simp only [zp, zn, zu, zv, zw]
    go_wp2_with fail
    refine bodyPost_ret (v := .tuple #[.agg (NC 0 [] 0 (.slice none 0 0)).toArray, nv at_, nv e4]) (box_res3 4 size25 rfl _ _ wb (NC 0 [] 0 (.slice none 0 0)) _ rfl rfl rfl b930.out rfl Tryd.underlying25 rfl) rfl (HFb.out w929 ?_)
    exact k931.out.below (Nat.le_refl _) (fun k hk e => e)
   ·
    have c3 := R932.out.cell 3; have c6 := R932.out.cell 6
    unfold RC at c3 c6
    simp only [g0, gs] at c3 c6
    rw [HA4.out] at c3
    rw [HE4.out] at c6
    go_simp
    clear c3 c6
    try (refine hk hK ?_; clear hK K)
    refine r1 3 (fun K hK => ?_)
    have c3 := R932.out.cell 3; have c6 := R932.out.cell 6
    unfold RC at c3 c6
    simp only [g0, gs] at c3 c6
    rw [HA4.out] at c3
    rw [HE4.out] at c6
    go_simp
    clear c3 c6
    try (refine hk hK ?_; clear hK K)
    refine tg 7 (nv at_) ?_
    refine tg 8 (nv e4) ?_
    refine wpAny_done (by kernel_rfl) ?_ _
    try simp only [zp, zn, zu, zv, zw]
    go_wp2_with fail
    refine bodyPost_ret (v := .tuple #[.agg (NC 0 [] 0 (.slice none 0 0)).toArray, nv at_, nv e4]) (box_res3 4 size25 rfl _ _ wb (NC 0 [] 0 (.slice none 0 0)) _ rfl rfl rfl b930.out rfl Tryd.underlying25 rfl) rfl (HFb.out w929 ?_)
    exact k931.out.below (Nat.le_refl _) (fun k hk e => e)
 ·
  have hltI : ¬ ((s5.at' E : Nat) : Int) < (S.length : Int) := by omega
  by_cases he : s5.e = 0
  ·
   have HRI : Hid (RdIs S (.mk nk nt nz nl) 0 0) := Lh ⟨_, s5, HEv.out, HX5.out, fun h => absurd h (by rw [← HSE2.out]; rintro (h | h); exact hlt h; exact h he), fun _ => ⟨rfl, rfl, rfl⟩⟩
   have HFg : Hid (∀ w', NV w' (fun k => w.heap.size ≤ k) (.mk nk nt nz nl) (NC nk nt nz (.slice A1 nl.length c1)) → Below w.heap.size w w' → RdPost S w (.returned (.tuple #[.agg (NC nk nt nz (.slice A1 nl.length c1)).toArray, nv 0, nv 0])) w') := Lh (fun w' h1 h2 => by exact ⟨_, _, _, _, rfl, HRI.out, h1, h2⟩)
   have hneI : (((s5.e : Nat) : Int) == 0) = true := by rw [he]; rfl
   have hneJ : (((s5.e : Nat) : Int) != 0) = false := by rw [bne, hneI]; rfl
   clear hlt hat he
   go_upto_region 7 with fail
   clear c3 c6
   have V5 := V4
   have b5 := N4.out
   go_wp2_with (first
    | (with_reducible refine wpList_load_cells rfl 25 4 size25 (.tmp 6) rfl ⟨nb, 0, none⟩ rfl [iv nk, sv nt, iv nz, .slice A1 nl.length c1] rfl _ Tryd.underlying25 rfl b5.at ?_)
    | (with_reducible refine wpList_store_blk rfl 25 4 size25 (.tmp 2) (.tmp 28) rfl wb [iv nk, sv nt, iv nz, .slice A1 nl.length c1] rfl rfl _ Z4.out rfl rfl rfl ?_; intro w8 hb8 hk8))
   refine bodyPost_ret (v := .tuple #[.agg (NC nk nt nz (.slice A1 nl.length c1)).toArray, nv 0, nv 0]) (box_res3 4 size25 rfl _ _ wb _ _ rfl rfl rfl hb8 rfl Tryd.underlying25 rfl) rfl (HFg.out w8 ?_ ?_)
   ·
    exact NV.keep (fun k h1 h2 => ⟨rfl, by have h3 := HWB.out; have := HG.out; omega⟩) _ _ (hk8.nv V5.out (fun k hk _ e => by have := HG.out; omega))
   ·
    exact (K4.out.trans hk8 (fun k hk e => by have := HWB.out; omega)).below (Nat.le_refl _) (fun k hk e => e)
  ·
   have HRI : Hid (RdIs S .zero (s5.at' E) s5.e) := Lh ⟨_, s5, HEv.out, HX5.out, fun _ => ⟨rfl, by rw [← HSE2.out], by rw [if_neg he]⟩, fun h => absurd (Or.inr he) h⟩
   obtain ⟨s4, hs4⟩ : ∃ x, x = s5 := ⟨_, rfl⟩
   obtain ⟨at_, ha⟩ : ∃ x, x = s5.at' E := ⟨_, rfl⟩
   obtain ⟨e4, he4⟩ : ∃ x, x = s5.e := ⟨_, rfl⟩
   have HA4 := Lh (show s4.at' E = at_ by rw [hs4, ha])
   have HE4 := Lh (show s4.e = e4 by rw [hs4, he4])
   rw [← he4, ← ha] at HRI
   rw [← ha] at c3 hltI
   rw [← he4] at c6 he
   rw [← hs4] at R4
   clear hs4 ha he4 hat hlt
   have HFb : Hid (∀ w', Below w.heap.size w w' → RdPost S w (.returned (.tuple #[.agg (NC 0 [] 0 (.slice none 0 0)).toArray, nv at_, nv e4])) w') := Lh (fun w' hw' => by exact ⟨_, _, _, _, rfl, HRI.out, zero_nv _ _, hw'⟩)
   have hneI : (((e4 : Nat) : Int) == 0) = false := by rw [beq_eq_false_iff_ne]; omega
   have hneJ : (((e4 : Nat) : Int) != 0) = true := by rw [bne, hneI]; rfl
   clear he
   go_upto_region 6 with fail
   clear c3 c6
   refine wp_region_any (by kernel_rfl) ?_
   change wpAny _ _ _ _ _ _ _ (World.drew w4)
   have Zd := Lh (show Blk (World.drew w4) wb 25 [.int .i64 0, .string ⟨#[]⟩, .int .i64 0, .slice none 0 0] from Z4.out)
   have Rd := Lh (show Blk (World.drew w4) g 65 (RC S E s4) from R4.out.b)
   have Kd := Lh (K4.out.trans (Kp.drew (fun _ => False) w4) (fun _ _ h => h.elim))
   generalize World.drew w4 = wd at Zd Rd Kd ⊢
   refine tg 0 (.agg #[.int .i64 0, .string ⟨#[]⟩, .int .i64 0, .slice none 0 0]) ?_
   refine tg 1 (.pointer (some ⟨g, 1, none⟩)) ?_
   refine tg 2 (.pointer (some ⟨g, 3, none⟩)) ?_
   refine tg 4 (.pointer (some ⟨g, 6, none⟩)) ?_
   refine rm [3, 5, 6] (ac (fun K hK => ?_) (ac (fun K hK => ?_) (ac (fun K hK => ?_) AllReady.nil)))
   ·
    have c3 := Rd.out.cell 3; have c6 := Rd.out.cell 6
    unfold RC at c3 c6
    simp only [g0, gs] at c3 c6
    rw [HA4.out] at c3
    rw [HE4.out] at c6
    go_simp
    clear c3 c6
    try (refine hk hK ?_; clear hK K)
    refine rm [5, 6] (ac (fun K hK => ?_) (ac (fun K hK => ?_) AllReady.nil))
    ·
     have c3 := Rd.out.cell 3; have c6 := Rd.out.cell 6
     unfold RC at c3 c6
     simp only [g0, gs] at c3 c6
     rw [HA4.out] at c3
     rw [HE4.out] at c6
     go_simp
     clear c3 c6
     try (refine hk hK ?_; clear hK K)
     refine r1 6 (fun K hK => ?_)
     refine wp_store_row 25 (.tmp 2) (.tmp 22) rfl wb #[.int .i64 0, .string ⟨#[]⟩, .int .i64 0, .slice none 0 0] rfl rfl _ _ Zd.out (by rw [size25]; rfl) rfl zc_all (hK _ _ ?_)
     clear hK K
     obtain ⟨w95, hw9⟩ : ∃ w9, w9 = wd.setRow wb #[.int .i64 0, .string ⟨#[]⟩, .int .i64 0, .slice none 0 0] := ⟨_, rfl⟩
     have b96 := Lh (show Blk w95 wb 25 [.int .i64 0, .string ⟨#[]⟩, .int .i64 0, .slice none 0 0] by rw [hw9]; exact Blk.row Zd.out _)
     have k9 := (show Kp (fun k => k = wb) wd w95 by rw [hw9]; exact Blk.kpRow _)
     have k97 := Lh (Kd.out.trans k9 (fun k hk e => by have := HWB.out; omega))
     have R98 := Lh (k9.blk Rd.out (by have := HG.out; omega))
     rw [← hw9]
     clear hw9 k9
     try (refine hk hK ?_; clear hK K)
     refine tg 7 (nv at_) ?_
     refine tg 8 (nv e4) ?_
     refine wpAny_done (by kernel_rfl) ?_ _
     try simp only [zp, zn, zu, zv, zw]
     go_wp2_with fail
     refine bodyPost_ret (v := .tuple #[.agg (NC 0 [] 0 (.slice none 0 0)).toArray, nv at_, nv e4]) (box_res3 4 size25 rfl _ _ wb (NC 0 [] 0 (.slice none 0 0)) _ rfl rfl rfl b96.out rfl Tryd.underlying25 rfl) rfl (HFb.out w95 ?_)
     exact k97.out.below (Nat.le_refl _) (fun k hk e => e)
    ·
     refine wp_store_row 25 (.tmp 2) (.tmp 22) rfl wb #[.int .i64 0, .string ⟨#[]⟩, .int .i64 0, .slice none 0 0] rfl rfl _ _ Zd.out (by rw [size25]; rfl) rfl zc_all (hK _ _ ?_)
     clear hK K
     obtain ⟨w911, hw9⟩ : ∃ w9, w9 = wd.setRow wb #[.int .i64 0, .string ⟨#[]⟩, .int .i64 0, .slice none 0 0] := ⟨_, rfl⟩
     have b912 := Lh (show Blk w911 wb 25 [.int .i64 0, .string ⟨#[]⟩, .int .i64 0, .slice none 0 0] by rw [hw9]; exact Blk.row Zd.out _)
     have k9 := (show Kp (fun k => k = wb) wd w911 by rw [hw9]; exact Blk.kpRow _)
     have k913 := Lh (Kd.out.trans k9 (fun k hk e => by have := HWB.out; omega))
     have R914 := Lh (k9.blk Rd.out (by have := HG.out; omega))
     rw [← hw9]
     clear hw9 k9
     try (refine hk hK ?_; clear hK K)
     refine tg 7 (nv at_) ?_
     refine r1 5 (fun K hK => ?_)
     have c3 := R914.out.cell 3; have c6 := R914.out.cell 6
     unfold RC at c3 c6
     simp only [g0, gs] at c3 c6
     rw [HA4.out] at c3
     rw [HE4.out] at c6
     go_simp
     clear c3 c6
     try (refine hk hK ?_; clear hK K)
     refine tg 8 (nv e4) ?_
     refine wpAny_done (by kernel_rfl) ?_ _
     try simp only [zp, zn, zu, zv, zw]
     go_wp2_with fail
     refine bodyPost_ret (v := .tuple #[.agg (NC 0 [] 0 (.slice none 0 0)).toArray, nv at_, nv e4]) (box_res3 4 size25 rfl _ _ wb (NC 0 [] 0 (.slice none 0 0)) _ rfl rfl rfl b912.out rfl Tryd.underlying25 rfl) rfl (HFb.out w911 ?_)
     exact k913.out.below (Nat.le_refl _) (fun k hk e => e)
   ·
    have c3 := Rd.out.cell 3; have c6 := Rd.out.cell 6
    unfold RC at c3 c6
    simp only [g0, gs] at c3 c6
    rw [HA4.out] at c3
    rw [HE4.out] at c6
    go_simp
    clear c3 c6
    try (refine hk hK ?_; clear hK K)
    refine rm [3, 6] (ac (fun K hK => ?_) (ac (fun K hK => ?_) AllReady.nil))
    ·
     have c3 := Rd.out.cell 3; have c6 := Rd.out.cell 6
     unfold RC at c3 c6
     simp only [g0, gs] at c3 c6
     rw [HA4.out] at c3
     rw [HE4.out] at c6
     go_simp
     clear c3 c6
     try (refine hk hK ?_; clear hK K)
     refine r1 6 (fun K hK => ?_)
     refine wp_store_row 25 (.tmp 2) (.tmp 22) rfl wb #[.int .i64 0, .string ⟨#[]⟩, .int .i64 0, .slice none 0 0] rfl rfl _ _ Zd.out (by rw [size25]; rfl) rfl zc_all (hK _ _ ?_)
     clear hK K
     obtain ⟨w917, hw9⟩ : ∃ w9, w9 = wd.setRow wb #[.int .i64 0, .string ⟨#[]⟩, .int .i64 0, .slice none 0 0] := ⟨_, rfl⟩
     have b918 := Lh (show Blk w917 wb 25 [.int .i64 0, .string ⟨#[]⟩, .int .i64 0, .slice none 0 0] by rw [hw9]; exact Blk.row Zd.out _)
     have k9 := (show Kp (fun k => k = wb) wd w917 by rw [hw9]; exact Blk.kpRow _)
     have k919 := Lh (Kd.out.trans k9 (fun k hk e => by have := HWB.out; omega))
     have R920 := Lh (k9.blk Rd.out (by have := HG.out; omega))
     rw [← hw9]
     clear hw9 k9
     try (refine hk hK ?_; clear hK K)
     refine tg 7 (nv at_) ?_
     refine tg 8 (nv e4) ?_
     refine wpAny_done (by kernel_rfl) ?_ _
     try simp only [zp, zn, zu, zv, zw]
     go_wp2_with fail
     refine bodyPost_ret (v := .tuple #[.agg (NC 0 [] 0 (.slice none 0 0)).toArray, nv at_, nv e4]) (box_res3 4 size25 rfl _ _ wb (NC 0 [] 0 (.slice none 0 0)) _ rfl rfl rfl b918.out rfl Tryd.underlying25 rfl) rfl (HFb.out w917 ?_)
     exact k919.out.below (Nat.le_refl _) (fun k hk e => e)
    ·
     refine wp_store_row 25 (.tmp 2) (.tmp 22) rfl wb #[.int .i64 0, .string ⟨#[]⟩, .int .i64 0, .slice none 0 0] rfl rfl _ _ Zd.out (by rw [size25]; rfl) rfl zc_all (hK _ _ ?_)
     clear hK K
     obtain ⟨w923, hw9⟩ : ∃ w9, w9 = wd.setRow wb #[.int .i64 0, .string ⟨#[]⟩, .int .i64 0, .slice none 0 0] := ⟨_, rfl⟩
     have b924 := Lh (show Blk w923 wb 25 [.int .i64 0, .string ⟨#[]⟩, .int .i64 0, .slice none 0 0] by rw [hw9]; exact Blk.row Zd.out _)
     have k9 := (show Kp (fun k => k = wb) wd w923 by rw [hw9]; exact Blk.kpRow _)
     have k925 := Lh (Kd.out.trans k9 (fun k hk e => by have := HWB.out; omega))
     have R926 := Lh (k9.blk Rd.out (by have := HG.out; omega))
     rw [← hw9]
     clear hw9 k9
     try (refine hk hK ?_; clear hK K)
     refine r1 3 (fun K hK => ?_)
     have c3 := R926.out.cell 3; have c6 := R926.out.cell 6
     unfold RC at c3 c6
     simp only [g0, gs] at c3 c6
     rw [HA4.out] at c3
     rw [HE4.out] at c6
     go_simp
     clear c3 c6
     try (refine hk hK ?_; clear hK K)
     refine tg 7 (nv at_) ?_
     refine tg 8 (nv e4) ?_
     refine wpAny_done (by kernel_rfl) ?_ _
     try simp only [zp, zn, zu, zv, zw]
     go_wp2_with fail
     refine bodyPost_ret (v := .tuple #[.agg (NC 0 [] 0 (.slice none 0 0)).toArray, nv at_, nv e4]) (box_res3 4 size25 rfl _ _ wb (NC 0 [] 0 (.slice none 0 0)) _ rfl rfl rfl b924.out rfl Tryd.underlying25 rfl) rfl (HFb.out w923 ?_)
     exact k925.out.below (Nat.le_refl _) (fun k hk e => e)
   ·
    refine wp_store_row 25 (.tmp 2) (.tmp 22) rfl wb #[.int .i64 0, .string ⟨#[]⟩, .int .i64 0, .slice none 0 0] rfl rfl _ _ Zd.out (by rw [size25]; rfl) rfl zc_all (hK _ _ ?_)
    clear hK K
    obtain ⟨w929, hw9⟩ : ∃ w9, w9 = wd.setRow wb #[.int .i64 0, .string ⟨#[]⟩, .int .i64 0, .slice none 0 0] := ⟨_, rfl⟩
    have b930 := Lh (show Blk w929 wb 25 [.int .i64 0, .string ⟨#[]⟩, .int .i64 0, .slice none 0 0] by rw [hw9]; exact Blk.row Zd.out _)
    have k9 := (show Kp (fun k => k = wb) wd w929 by rw [hw9]; exact Blk.kpRow _)
    have k931 := Lh (Kd.out.trans k9 (fun k hk e => by have := HWB.out; omega))
    have R932 := Lh (k9.blk Rd.out (by have := HG.out; omega))
    rw [← hw9]
    clear hw9 k9
    try (refine hk hK ?_; clear hK K)
    refine rm [3, 5] (ac (fun K hK => ?_) (ac (fun K hK => ?_) AllReady.nil))
    ·
     have c3 := R932.out.cell 3; have c6 := R932.out.cell 6
     unfold RC at c3 c6
     simp only [g0, gs] at c3 c6
     rw [HA4.out] at c3
     rw [HE4.out] at c6
     go_simp
     clear c3 c6
     try (refine hk hK ?_; clear hK K)
     refine tg 7 (nv at_) ?_
     refine r1 5 (fun K hK => ?_)
     have c3 := R932.out.cell 3; have c6 := R932.out.cell 6
     unfold RC at c3 c6
     simp only [g0, gs] at c3 c6
     rw [HA4.out] at c3
     rw [HE4.out] at c6
     go_simp
     clear c3 c6
     try (refine hk hK ?_; clear hK K)
     refine tg 8 (nv e4) ?_
     refine wpAny_done (by kernel_rfl) ?_ _
     try simp only [zp, zn, zu, zv, zw]
     go_wp2_with fail
     refine bodyPost_ret (v := .tuple #[.agg (NC 0 [] 0 (.slice none 0 0)).toArray, nv at_, nv e4]) (box_res3 4 size25 rfl _ _ wb (NC 0 [] 0 (.slice none 0 0)) _ rfl rfl rfl b930.out rfl Tryd.underlying25 rfl) rfl (HFb.out w929 ?_)
     exact k931.out.below (Nat.le_refl _) (fun k hk e => e)
    ·
     have c3 := R932.out.cell 3; have c6 := R932.out.cell 6
     unfold RC at c3 c6
     simp only [g0, gs] at c3 c6
     rw [HA4.out] at c3
     rw [HE4.out] at c6
     go_simp
     clear c3 c6
     try (refine hk hK ?_; clear hK K)
     refine r1 3 (fun K hK => ?_)
     have c3 := R932.out.cell 3; have c6 := R932.out.cell 6
     unfold RC at c3 c6
     simp only [g0, gs] at c3 c6
     rw [HA4.out] at c3
     rw [HE4.out] at c6
     go_simp
     clear c3 c6
     try (refine hk hK ?_; clear hK K)
     refine tg 7 (nv at_) ?_
     refine tg 8 (nv e4) ?_
     refine wpAny_done (by kernel_rfl) ?_ _
     try simp only [zp, zn, zu, zv, zw]
     go_wp2_with fail
     refine bodyPost_ret (v := .tuple #[.agg (NC 0 [] 0 (.slice none 0 0)).toArray, nv at_, nv e4]) (box_res3 4 size25 rfl _ _ wb (NC 0 [] 0 (.slice none 0 0)) _ rfl rfl rfl b930.out rfl Tryd.underlying25 rfl) rfl (HFb.out w929 ?_)
     exact k931.out.below (Nat.le_refl _) (fun k hk e => e)
end
end Go.Proofs.YtpbhgebblpdmnaaDoor
