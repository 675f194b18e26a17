/-
  The law's examples: lives answers true.
  No condition but the tables.
-/
import Derived.Test.YtpbhgebblpdmnaaDoorZ
import Derived.Test.YtpbhgebblpdmnaaDoorTr
namespace Go.Proofs.YtpbhgebblpdmnaaDoor
open Go.RowKit Wr Src
set_option linter.unusedVariables false
set_option maxRecDepth 100000
section
variable {B : Nat} {w : World}
theorem nd_form (n : Nd) : ∃ k t z l, n = Nd.mk k t z l := by cases n with | mk k t z l => exact ⟨k, t, z, l, rfl⟩
theorem ps_of {S : Str} {n1 : Nd} {p1 e1 : Nat} (K : Nat) (ht : Tab B w) (hl : S.length ≤ 1024) (h9 : (rdDef K ⟨(LX S 0).1, 0⟩).2.e ≠ 9) (hr : rdK K S = (n1, p1, e1)) (hf : e1 = 0 → (wNode 24 n1 ⟨[], false⟩).bad = false) :
  Calls Tryd.prog 7 #[sv S] w fun en w' => ∃ cs, en = .returned (.tuple #[.agg cs.toArray, nv p1, nv e1]) ∧ NV w' Any n1 cs ∧ Below w.heap.size w w' := by
 refine (parse_any S ht (by omega)).mono ?_
 rintro en w' ⟨n, p, e, cs, h1, h2, h3, h4⟩
 obtain ⟨rfl, rfl, rfl⟩ := psis_run K hl h9 hr h2 hf
 exact ⟨cs, h1, h3.any, h4⟩
theorem ps1 (ht : Tab B w) : Calls Tryd.prog 7 #[.string ⟨#[118, 97, 114, 32, 110, 61, 45, 55, 59]⟩] w fun en w' => ∃ A c, en = .returned (.tuple #[.agg #[.int .i64 0, .string ⟨#[110]⟩, .int .i64 (-7), .slice A 0 c], .int .i64 0, .int .i64 0]) ∧ NV w' Any (.mk 0 [110] (-7) []) (NC 0 [110] (-7) (.slice A 0 c)) ∧ Below w.heap.size w w' := by
 refine (ps_of (S := tx1) 40 ht (by decide) (by rw [nine.1]; decide) run1 (fun _ => by rw [wr1])).mono ?_
 rintro en w' ⟨cs, rfl, h1, h2⟩
 obtain ⟨A, c, xs, rfl, _⟩ := h1.form
 exact ⟨A, c, rfl, h1, h2⟩
theorem ps2 (ht : Tab B w) : Calls Tryd.prog 7 #[.string ⟨#[112, 114, 111, 99, 32, 112, 123, 36, 97, 61, 40, 120, 46, 121, 43, 49, 41, 42, 50, 59, 105, 102, 32, 36, 97, 60, 51, 123, 103, 111, 32, 113, 59, 125, 101, 108, 115, 101, 123, 125, 125]⟩] w fun en w' => ∃ nk nt nz nl A c, en = .returned (.tuple #[.agg #[.int .i64 nk, .string ⟨nt.toArray⟩, .int .i64 nz, .slice A nl c], .int .i64 0, .int .i64 0]) ∧ Hid (NV w' Any nd2 (NC nk nt nz (.slice A nl c))) ∧ Below w.heap.size w w' := by
 refine (ps_of (S := tx2) 100 ht (by decide) (by rw [nine.2.1]; decide) run2 (fun _ => by rw [wr2])).mono ?_
 rintro en w' ⟨cs, rfl, h1, h2⟩
 obtain ⟨k, t, z, l, hn⟩ : ∃ k t z l, nd2 = Nd.mk k t z l := nd_form nd2
 have h3 := h1
 rw [hn] at h3
 obtain ⟨A, c, xs, rfl, _⟩ := h3.form
 exact ⟨k, t, z, l.length, A, c, rfl, Lh h1, h2⟩
theorem ps3 (ht : Tab B w) : Calls Tryd.prog 7 #[.string ⟨#[116, 101, 115, 116, 32, 116, 32, 123, 32, 99, 104, 101, 99, 107, 32, 49, 32, 61, 61, 32, 107, 105, 110, 100, 59, 32, 125]⟩] w fun en w' => ∃ A c, en = .returned (.tuple #[.agg #[.int .i64 6, .string ⟨#[116]⟩, .int .i64 0, .slice A 1 c], .int .i64 0, .int .i64 0]) ∧ NV w' Any nd3 (NC 6 [116] 0 (.slice A 1 c)) ∧ Below w.heap.size w w' := by
 refine (ps_of (S := tx3) 60 ht (by decide) (by rw [nine.2.2.1]; decide) run3 (fun _ => by rw [wr3])).mono ?_
 rintro en w' ⟨cs, rfl, h1, h2⟩
 have h3 := h1
 unfold nd3 at h3
 obtain ⟨A, c, xs, rfl, _⟩ := h3.form
 exact ⟨A, c, rfl, h1, h2⟩
def txL : List Str := [tx4, tx5, tx6, tx7]
def ofL : List Int := [7, 13, 6, 4]
theorem psE (ht : Tab B w) (i : Nat) (S : Str) (o : Int) (hS : txL[i]? = some S) (ho : ofL[i]? = some o) : Calls Tryd.prog 7 #[.string ⟨S.toArray⟩] w fun en w' => ∃ A c, en = .returned (.tuple #[.agg #[.int .i64 0, .string ⟨#[]⟩, .int .i64 0, .slice A 0 c], .int .i64 o, .int .i64 (if i = 0 then 5 else 2)]) ∧ Below w.heap.size w w' := by
 have key : ∀ (S : Str) (K p1 e1 : Nat), S.length ≤ 1024 → (rdDef K ⟨(LX S 0).1, 0⟩).2.e ≠ 9 → rdK K S = (.zero, p1, e1) → e1 ≠ 0 → Calls Tryd.prog 7 #[sv S] w fun en w' => ∃ A c, en = .returned (.tuple #[.agg #[.int .i64 0, .string ⟨#[]⟩, .int .i64 0, .slice A 0 c], nv p1, nv e1]) ∧ Below w.heap.size w w' := by
  intro S K p1 e1 h1 h2 h3 h4
  refine (ps_of K ht h1 h2 h3 (fun h => absurd h h4)).mono ?_
  rintro en w' ⟨cs, rfl, hv, hb⟩
  obtain ⟨A, c, xs, rfl, _⟩ := NV.form (k := 0) (t := []) (z := 0) (l := []) hv
  exact ⟨A, c, rfl, hb⟩
 have hi : i < 4 := by
  have := (List.getElem?_eq_some_iff.1 hS).1
  exact this
 have h4 : i = 0 ∨ i = 1 ∨ i = 2 ∨ i = 3 := by omega
 rcases h4 with rfl | rfl | rfl | rfl <;> (injection hS with hS; injection ho with ho; subst hS ho)
 ·
  exact key tx4 40 7 5 (by decide) (by rw [nine.2.2.2.1]; decide) run4 (by decide)
 ·
  exact key tx5 60 13 2 (by decide) (by rw [nine.2.2.2.2.1]; decide) run5 (by decide)
 ·
  exact key tx6 40 6 2 (by decide) (by rw [nine.2.2.2.2.2.1]; decide) run6 (by decide)
 ·
  exact key tx7 40 4 2 (by decide) (by rw [nine.2.2.2.2.2.2]; decide) run7 (by decide)
structure LvS (B : Nat) (w W : World) (ba bb bc : Nat) (A1 : Option Addr) (c1 : Nat) (nk : Int) (nt : Str) (nz : Int) (A2 : Option Addr) (n2 c2 : Nat) (A3 : Option Addr) (c3 : Nat) : Prop where
 t : Tab B W
 k : Below w.heap.size w W
 a : Blk W ba 25 (NC 0 [110] (-7) (.slice A1 0 c1))
 va : NV W Any (.mk 0 [110] (-7) []) (NC 0 [110] (-7) (.slice A1 0 c1))
 b : Blk W bb 25 (NC nk nt nz (.slice A2 n2 c2))
 vb : NV W Any nd2 (NC nk nt nz (.slice A2 n2 c2))
 c : Blk W bc 25 (NC 6 [116] 0 (.slice A3 1 c3))
 vc : NV W Any nd3 (NC 6 [116] 0 (.slice A3 1 c3))
section
variable {W W' : World} {ba bb bc : Nat} {A1 : Option Addr} {c1 : Nat} {nk : Int} {nt : Str} {nz : Int} {A2 : Option Addr} {n2 c2 : Nat} {A3 : Option Addr} {c3 : Nat}
theorem LvS.below (h : LvS B w W ba bb bc A1 c1 nk nt nz A2 n2 c2 A3 c3) (hb : Below W.heap.size W W') : LvS B w W' ba bb bc A1 c1 nk nt nz A2 n2 c2 A3 c3 :=
 ⟨h.t.below hb, below_step h.k hb, h.a.below hb h.a.lt, h.va.anyBelow hb, h.b.below hb h.b.lt, h.vb.anyBelow hb, h.c.below hb h.c.lt, h.vc.anyBelow hb⟩
theorem LvS.size (h : LvS B w W ba bb bc A1 c1 nk nt nz A2 n2 c2 A3 c3) : Calls Tryd.prog 25 #[.agg #[.int .i64 nk, .string ⟨nt.toArray⟩, .int .i64 nz, .slice A2 n2 c2]] W fun en w' => en = .returned (.int .i64 15) ∧ Below W.heap.size W w' := by
 refine (size_of h.vb (by rw [sz2]; decide)).mono ?_
 rintro en w' ⟨rfl, h2⟩
 rw [sz2]; exact ⟨rfl, h2⟩
theorem LvS.head (h : LvS B w W ba bb bc A1 c1 nk nt nz A2 n2 c2 A3 c3) : Calls Tryd.prog 26 #[.agg #[.int .i64 6, .string ⟨#[116]⟩, .int .i64 0, .slice A3 1 c3]] W fun en w' => en = .returned (.tuple #[.int .i64 6, .string ⟨#[116]⟩]) ∧ Below W.heap.size W w' := by
 refine (head_any h.t nd3 _ h.vc).mono ?_
 rintro en w' ⟨k, T, rfl, h2, h3, _⟩
 obtain ⟨rfl, rfl⟩ := h3 vd3
 exact ⟨rfl, h2⟩
theorem LvS.pa (h : LvS B w W ba bb bc A1 c1 nk nt nz A2 n2 c2 A3 c3) : Calls Tryd.prog 6 #[.agg #[.int .i64 0, .string ⟨#[110]⟩, .int .i64 (-7), .slice A1 0 c1]] W fun en w' => en = .returned (.string ⟨#[118, 97, 114, 32, 110, 32, 61, 32, 45, 55, 59]⟩) ∧ Below W.heap.size W w' := by
 refine (print_any h.t _ _ h.va).mono ?_
 rintro en w' ⟨T, rfl, h2, h3, _⟩
 refine ⟨?_, h2⟩
 rw [h3 vd1, txt1]; kernel_rfl
theorem LvS.pb (h : LvS B w W ba bb bc A1 c1 nk nt nz A2 n2 c2 A3 c3) : Calls Tryd.prog 6 #[.agg #[.int .i64 nk, .string ⟨nt.toArray⟩, .int .i64 nz, .slice A2 n2 c2]] W fun en w' => en = .returned (.string ⟨#[112, 114, 111, 99, 32, 112, 32, 123, 32, 36, 97, 32, 61, 32, 40, 120, 46, 121, 32, 43, 32, 49, 41, 32, 42, 32, 50, 59, 32, 105, 102, 32, 36, 97, 32, 60, 32, 51, 32, 123, 32, 103, 111, 32, 113, 59, 32, 125, 32, 101, 108, 115, 101, 32, 123, 32, 125, 32, 125]⟩) ∧ Below W.heap.size W w' := by
 refine (print_any h.t nd2 _ h.vb).mono ?_
 rintro en w' ⟨T, rfl, h2, h3, _⟩
 refine ⟨?_, h2⟩
 rw [h3 vd2, txt2]; kernel_rfl
theorem LvS.kids (h : LvS B w W ba bb bc A1 c1 nk nt nz A2 n2 c2 A3 c3) : ∃ g3 o3 g4 o4 c4, A3 = some ⟨g3, o3, none⟩ ∧ 1 ≤ c3 ∧ 1 ≤ c4 ∧ W.cell? ⟨g3, o3 + 3, none⟩ = some (.slice (some ⟨g4, o4, none⟩) 1 c4) ∧ W.cell? ⟨g4, o4, none⟩ = some (.int .i64 24) := by
 have h1 := h.vc
 unfold nd3 at h1
 obtain ⟨A, c, xs, e, _, _, hc, _, hr, hl⟩ := h1.form
 injection e with _ e; injection e with _ e; injection e with _ e; injection e with e _
 injection e with e1 e2 e3
 subst e1 e3
 obtain ⟨a, b, rfl, hv, _⟩ := hl.inv
 obtain ⟨A4, c4, ys, rfl, _, _, hc4, _, hr4, hl4⟩ := hv.form
 obtain ⟨a5, b5, rfl, hv5, _⟩ := hl4.inv
 obtain ⟨A5, c5, zs, rfl, _⟩ := hv5.form
 obtain ⟨g3, o3, rfl, _, hcell⟩ := hr (by simp [NC])
 obtain ⟨g4, o4, rfl, _, hcell4⟩ := hr4 (by simp [NC])
 exact ⟨g3, o3, g4, o4, c4, rfl, hc, hc4, hcell 3 _ rfl, hcell4 0 _ rfl⟩
end
set_option maxHeartbeats 8000000 in
theorem lives_any (ht : Tab B w) : Calls Tryd.prog 12 #[] w fun en w' => en = .returned (.bool true) ∧ Below w.heap.size w w' := by
 have z1 := zero25
 have HT := Lh ht
 have H1 := Lh (ps1 ht)
 have H2 := Lh (fun W (hW : Tab B W) => ps2 hW)
 have H3 := Lh (fun W (hW : Tab B W) => ps3 hW)
 clear ht
 go_enter Tryd.func12, Tryd.ntmps12
 go_wp2_with fail
 refine H1.out.mono ?_
 rintro e w1 ⟨A1, c1, rfl, v1, b1⟩
 have V1 := Lh v1; have L1 := Lh b1; have T1 := Lh (HT.out.below b1)
 clear v1 b1 H1
 go_upto_region 2 with fail
 obtain ⟨ba, hba⟩ : ∃ z, w1.heap.size = z := ⟨_, rfl⟩
 obtain ⟨w2, hw2⟩ : ∃ w', w1.alloc (.cells #[.int .i64 0, .string ⟨#[110]⟩, .int .i64 (-7), .slice A1 0 c1] 25) = w' := ⟨_, rfl⟩
 have l2 : Below w1.heap.size w1 w2 := by rw [← hw2]; exact (Below.refl _ _).alloc (Nat.le_refl _) _
 have X2 := Lh (show Blk w2 ba 25 (NC 0 [110] (-7) (.slice A1 0 c1)) by rw [← hw2, ← hba]; exact Blk.new w1 _ _)
 have V2 := Lh (V1.out.anyBelow l2); have L2 := Lh (below_step L1.out l2); have T2 := Lh (T1.out.below l2)
 rw [hba, hw2]
 have HH2 := Lh (H2.out _ T2.out)
 clear l2 hw2 hba V1 L1 T1 H2
 go_wp2_with fail
 refine HH2.out.mono ?_
 rintro e w3 ⟨nk, nt, nz, n2, A2, c2, rfl, v3, b3⟩
 have W3 := v3
 have X3 := Lh (X2.out.below b3 X2.out.lt); have V3 := Lh (V2.out.anyBelow b3); have L3 := Lh (below_step L2.out b3); have T3 := Lh (T2.out.below b3)
 clear b3 HH2 X2 V2 L2 T2 v3
 go_upto_region 3 with fail
 obtain ⟨bb, hbb⟩ : ∃ z, w3.heap.size = z := ⟨_, rfl⟩
 obtain ⟨w4, hw4⟩ : ∃ w', w3.alloc (.cells #[.int .i64 nk, .string ⟨nt.toArray⟩, .int .i64 nz, .slice A2 n2 c2] 25) = w' := ⟨_, rfl⟩
 have l4 : Below w3.heap.size w3 w4 := by rw [← hw4]; exact (Below.refl _ _).alloc (Nat.le_refl _) _
 have Y4 := Lh (show Blk w4 bb 25 (NC nk nt nz (.slice A2 n2 c2)) by rw [← hw4, ← hbb]; exact Blk.new w3 _ _)
 have X4 := Lh (X3.out.below l4 X3.out.lt); have V4 := Lh (V3.out.anyBelow l4); have W4 := Lh (W3.out.anyBelow l4); have L4 := Lh (below_step L3.out l4); have T4 := Lh (T3.out.below l4)
 rw [hbb, hw4]
 have HH3 := Lh (H3.out _ T4.out)
 clear l4 hw4 hbb X3 V3 W3 L3 T3 H3
 go_wp2_with fail
 refine HH3.out.mono ?_
 rintro e w5 ⟨A3, c3, rfl, v5, b5⟩
 have U5 := Lh v5
 have X5 := Lh (X4.out.below b5 X4.out.lt); have Y5 := Lh (Y4.out.below b5 Y4.out.lt); have V5 := Lh (V4.out.anyBelow b5); have W5 := Lh (W4.out.anyBelow b5); have L5 := Lh (below_step L4.out b5); have T5 := Lh (T4.out.below b5)
 clear b5 HH3 X4 Y4 V4 W4 L4 T4 v5
 go_upto_region 4 with fail
 obtain ⟨bc, hbc⟩ : ∃ z, w5.heap.size = z := ⟨_, rfl⟩
 obtain ⟨w6, hw6⟩ : ∃ w', w5.alloc (.cells #[.int .i64 6, .string ⟨#[116]⟩, .int .i64 0, .slice A3 1 c3] 25) = w' := ⟨_, rfl⟩
 have l6 : Below w5.heap.size w5 w6 := by rw [← hw6]; exact (Below.refl _ _).alloc (Nat.le_refl _) _
 have Q6 := Lh (show LvS B w w6 ba bb bc A1 c1 nk nt nz A2 n2 c2 A3 c3 from ⟨T5.out.below l6, below_step L5.out l6, X5.out.below l6 X5.out.lt, V5.out.anyBelow l6, Y5.out.below l6 Y5.out.lt, W5.out.anyBelow l6, by rw [← hw6, ← hbc]; exact Blk.new w5 _ _, U5.out.anyBelow l6⟩)
 rw [hbc, hw6]
 clear l6 hw6 hbc X5 Y5 V5 W5 U5 L5 T5 HT
 have bq1 : ∀ W : World, (Instr.buildSlice 35 4 #[(0, .string ⟨#[99, 104, 97, 110, 32, 99, 32, 52, 59]⟩), (1, .string ⟨#[116, 101, 115, 116, 32, 116, 32, 123, 32, 120, 32, 61, 32, 59, 32, 125]⟩), (2, .string ⟨#[108, 111, 99, 107, 32, 108]⟩), (3, .string ⟨#[118, 97, 114, 32, 114, 101, 97, 100, 32, 61, 32, 49, 59]⟩)]).run Tryd.prog W = .ok (.slice (some ⟨W.heap.size, 0, none⟩) 4 4) (W.alloc (.cells #[.string ⟨#[99, 104, 97, 110, 32, 99, 32, 52, 59]⟩, .string ⟨#[116, 101, 115, 116, 32, 116, 32, 123, 32, 120, 32, 61, 32, 59, 32, 125]⟩, .string ⟨#[108, 111, 99, 107, 32, 108]⟩, .string ⟨#[118, 97, 114, 32, 114, 101, 97, 100, 32, 61, 32, 49, 59]⟩] 9)) := fun _ => by kernel_rfl
 go_upto_region 5 with fail
 obtain ⟨sb, hsb⟩ : ∃ z, w6.heap.size = z := ⟨_, rfl⟩
 obtain ⟨w7, hw7⟩ : ∃ w', w6.alloc (.cells #[.string ⟨#[99, 104, 97, 110, 32, 99, 32, 52, 59]⟩, .string ⟨#[116, 101, 115, 116, 32, 116, 32, 123, 32, 120, 32, 61, 32, 59, 32, 125]⟩, .string ⟨#[108, 111, 99, 107, 32, 108]⟩, .string ⟨#[118, 97, 114, 32, 114, 101, 97, 100, 32, 61, 32, 49, 59]⟩] 9) = w' := ⟨_, rfl⟩
 have l7 : Below w6.heap.size w6 w7 := by rw [← hw7]; exact (Below.refl _ _).alloc (Nat.le_refl _) _
 have S7 := Lh (show Blk w7 sb 9 (txL.map (fun t => sv t)) by rw [← hw7, ← hsb]; exact Blk.new w6 _ _)
 have Q7 := Lh (Q6.out.below l7)
 rw [hsb, hw7]
 clear l7 hw7 hsb Q6 bq1
 have bq2 : ∀ W : World, (Instr.buildSlice 22 4 #[(0, .int .i64 7), (1, .int .i64 13), (2, .int .i64 6), (3, .int .i64 4)]).run Tryd.prog W = .ok (.slice (some ⟨W.heap.size, 0, none⟩) 4 4) (W.alloc (.cells #[.int .i64 7, .int .i64 13, .int .i64 6, .int .i64 4] 3)) := fun _ => by kernel_rfl
 go_upto_region 6 with fail
 obtain ⟨ob, hob⟩ : ∃ z, w7.heap.size = z := ⟨_, rfl⟩
 obtain ⟨w8, hw8⟩ : ∃ w', w7.alloc (.cells #[.int .i64 7, .int .i64 13, .int .i64 6, .int .i64 4] 3) = w' := ⟨_, rfl⟩
 have l8 : Below w7.heap.size w7 w8 := by rw [← hw8]; exact (Below.refl _ _).alloc (Nat.le_refl _) _
 have O8 := Lh (show Blk w8 ob 3 (ofL.map (fun z => iv z)) by rw [← hw8, ← hob]; exact Blk.new w7 _ _)
 have S8 := Lh (S7.out.below l8 S7.out.lt)
 have Q8 := Lh (Q7.out.below l8)
 rw [hob, hw8]
 clear l8 hw8 hob Q7 S7 bq2
 go_wp2_with fail
 go_loopw [12] (fun s12 wr => ∃ i : Nat, i ≤ 4 ∧ s12 = .int .i64 (i : Int) ∧ Hid (LvS B w wr ba bb bc A1 c1 nk nt nz A2 n2 c2 A3 c3) ∧ Hid (Blk wr sb 9 (txL.map (fun t => sv t))) ∧ Hid (Blk wr ob 3 (ofL.map (fun z => iv z)))) (fun s12 _ => 4 - (intOf s12).toNat)
 case atStart => exact ⟨0, by omega, rfl, Q8, S8, O8⟩
 case round =>
  clear Q8 S8 O8
  obtain ⟨i, hi4, rfl, QR, SR, OR⟩ := hrel
  by_cases hi : i < 4
  ·
   obtain ⟨S, hS⟩ : ∃ S, txL[i]? = some S := ⟨_, List.getElem?_eq_getElem (show i < txL.length from hi)⟩
   obtain ⟨o, ho⟩ : ∃ o, ofL[i]? = some o := ⟨_, List.getElem?_eq_getElem (show i < ofL.length from hi)⟩
   have cs : wr.cell? ⟨sb, i, none⟩ = some (sv S) := by
    refine (SR.out.cell i).trans ?_
    rw [List.getElem?_map, hS]; rfl
   have HP := Lh (psE QR.out.t i S o hS ho)
   have hiI : (i : Int) < 4 := by omega
   have HI := Lh hi
   have HO := Lh ho
   clear hS ho hi4 hi
   go_wp2_with fail
   refine HP.out.mono ?_
   rintro e w9 ⟨A9, c9, rfl, b9⟩
   have co : w9.cell? ⟨ob, i, none⟩ = some (iv o) := by
    refine ((OR.out.below b9 OR.out.lt).cell i).trans ?_
    rw [List.getElem?_map, HO.out]; rfl
   have Q9 := Lh (QR.out.below b9); have S9 := Lh (SR.out.below b9 SR.out.lt); have O9 := Lh (OR.out.below b9 OR.out.lt)
   clear b9 QR SR OR HP cs
   go_upto_region 10 with fail
   obtain ⟨w10, hw10⟩ : ∃ w', w9.alloc (.cells #[.int .i64 0, .string ⟨#[]⟩, .int .i64 0, .slice A9 0 c9] 25) = w' := ⟨_, rfl⟩
   have l10 : Below w9.heap.size w9 w10 := by rw [← hw10]; exact (Below.refl _ _).alloc (Nat.le_refl _) _
   have Q10 := Lh (Q9.out.below l10); have S10 := Lh (S9.out.below l10 S9.out.lt); have O10 := Lh (O9.out.below l10 O9.out.lt)
   have co' : w10.cell? ⟨ob, i, none⟩ = some (iv o) := by
    refine (O10.out.cell i).trans ?_
    rw [List.getElem?_map, HO.out]; rfl
   rw [hw10]
   clear l10 hw10 Q9 S9 O9 co
   rcases Nat.eq_zero_or_pos i with h0 | h0
   ·
    subst h0
    rw [if_pos rfl]
    go_wp2_with fail
    go_roundw
    case rel =>
     first
      | exact ⟨1, by omega, rfl, Q10, S10, O10⟩
      | ((repeat apply Exists.intro); exact ⟨⟨1, by omega, rfl, Q10, S10, O10⟩, rfl⟩)
    case measure => simp only [intOf]; omega
   ·
    rw [if_neg (by omega)]
    have h0I : (0 : Int) < (i : Int) := by omega
    have h0B : ((i : Int) == 0) = false := by rw [beq_eq_false_iff_ne]; omega
    clear h0
    go_wp2_with fail
    go_roundw
    case rel =>
     first
      | exact ⟨i + 1, by have := HI.out; omega, by first | rfl | exact congrArg (Value.int .i64) (by omega), Q10, S10, O10⟩
      | ((repeat apply Exists.intro); exact ⟨⟨i + 1, by have := HI.out; omega, by first | rfl | exact congrArg (Value.int .i64) (by omega), Q10, S10, O10⟩, rfl⟩)
    case measure => simp only [intOf]; omega
  ·
   have hiI : ¬ (i : Int) < 4 := by omega
   clear hi hi4 SR OR
   have HS := Lh QR.out.size
   have a2 := QR.out.a.cell 2
   have d0 := QR.out.b.cell 0; have d1 := QR.out.b.cell 1; have d2 := QR.out.b.cell 2; have d3 := QR.out.b.cell 3
   have e3 := QR.out.c.cell 3
   unfold NC at a2 d0 d1 d2 d3 e3
   simp only [g0, gs] at a2 d0 d1 d2 d3 e3
   go_wp2_with fail
   refine HS.out.mono ?_
   rintro e wa ⟨rfl, ba'⟩
   have QA := Lh (QR.out.below ba')
   clear ba' QR HS a2 d0 d1 d2 d3 e3
   have HHd := Lh QA.out.head
   have e0 := QA.out.c.cell 0; have e1 := QA.out.c.cell 1; have e2 := QA.out.c.cell 2; have e3 := QA.out.c.cell 3
   unfold NC at e0 e1 e2 e3
   simp only [g0, gs] at e0 e1 e2 e3
   go_wp2_with fail
   refine HHd.out.mono ?_
   rintro e wb ⟨rfl, bb'⟩
   have QB := Lh (QA.out.below bb')
   clear bb' QA HHd e0 e1 e2 e3
   have HPa := Lh QB.out.pa
   have a0 := QB.out.a.cell 0; have a1 := QB.out.a.cell 1; have a2 := QB.out.a.cell 2; have a3 := QB.out.a.cell 3
   unfold NC at a0 a1 a2 a3
   simp only [g0, gs] at a0 a1 a2 a3
   go_wp2_with fail
   refine HPa.out.mono ?_
   rintro e wd ⟨rfl, bd'⟩
   have QD := Lh (QB.out.below bd')
   clear bd' QB HPa a0 a1 a2 a3
   have HPb := Lh QD.out.pb
   have d0 := QD.out.b.cell 0; have d1 := QD.out.b.cell 1; have d2 := QD.out.b.cell 2; have d3 := QD.out.b.cell 3
   unfold NC at d0 d1 d2 d3
   simp only [g0, gs] at d0 d1 d2 d3
   go_wp2_with fail
   refine HPb.out.mono ?_
   rintro e we ⟨rfl, be'⟩
   have QE := Lh (QD.out.below be')
   clear be' QD HPb d0 d1 d2 d3
   obtain ⟨g3, o3, g4, o4, c4, rfl, hc3, hc4, k3, k4⟩ := QE.out.kids
   have e3 := QE.out.c.cell 3
   unfold NC at e3
   simp only [g0, gs] at e3
   have hc3I : (1 : Int) ≤ (c3 : Int) := by omega
   have hc4I : (1 : Int) ≤ (c4 : Int) := by omega
   go_wp2_with fail
   exact bodyPost_ret (v := .bool true) (by simp [results]) rfl ⟨rfl, QE.out.k⟩
end
end Go.Proofs.YtpbhgebblpdmnaaDoor
