/-
  The walk of the law MerkleRoots.
  Conditions: strings of at most 2^63 - 1 bytes; the tables of the round constants are as the text lays them.
-/
import Derived.Test.YtofccgkgjcnfbaaDoorRTrees
import Derived.Test.YtofccgkgjcnfbaaDoorRawL
import Derived.Test.YtofccgkgjcnfbaaDoorGen
import Derived.Test.YtofccgkgjcnfbaaDoorLives
import Derived.Lib.AppendZeros
namespace Go.Proofs.YtofccgkgjcnfbaaDoor
open Go.RowKit Wr Sh
set_option linter.unusedVariables false
set_option maxRecDepth 100000

theorem eqi29 (d e : List UInt8) (hd : d.length = 16) (he : e.length = 16) (w : World) : (Op.equalIn 10000 29 (.agg (B8 d).toArray) (.agg (B8 e).toArray)).run Tryd.prog w = .ok (d == e) w := by
  obtain ⟨i0, hi0, _⟩ := info_parts Tryd.info5
  rw [show (10000 : Nat) = 9999 + 1 from rfl, run_equalIn_array w 9999 _ _ Tryd.underlying29 hi0, show (9999 : Nat) = 9998 + 1 from rfl, items_all 9998 d e w (by omega) _ (by intro i hi; rw [hd]; exact List.mem_range.1 hi)]
  have : ((List.range 16).all fun i => d[i]? == e[i]?) = (d == e) := by
    rw [Bool.eq_iff_iff, List.all_eq_true, beq_iff_eq]
    constructor
    · intro h
      apply List.ext_getElem?
      intro i
      rcases Nat.lt_or_ge i 16 with hi | hi
      · exact beq_iff_eq.1 (h i (List.mem_range.2 hi))
      · rw [List.getElem?_eq_none (by omega), List.getElem?_eq_none (by omega)]
    · rintro rfl i _; simp
  rw [this]
theorem eqi29s (d : List UInt8) (hd : d.length = 16) (w : World) : (Op.equalIn 10000 29 (.agg (B8 d).toArray) (.agg (B8 d).toArray)).run Tryd.prog w = .ok true w := by
  rw [eqi29 d d hd hd w, beq_self_eq_true]
theorem s7_below {gl i g9 g11 : Nat} {u : Value} {R Q : List UInt8} {W W' : World} (h : W.cell? ⟨gl, i, none⟩ = some u ∧ Blk W g9 29 (B8 R) ∧ Blk W g11 29 (B8 Q)) (hb : Below W.heap.size W W') : W'.cell? ⟨gl, i, none⟩ = some u ∧ Blk W' g9 29 (B8 R) ∧ Blk W' g11 29 (B8 Q) :=
  ⟨(hb.cell (p := ⟨gl, i, none⟩) (World.block_lt_of_cell? _ _ h.1)).trans h.1, h.2.1.below hb h.2.1.lt, h.2.2.below hb h.2.2.lt⟩
theorem below_none {W W' : World} (h : W.grownBy W' none) : Below W.heap.size W W' := ⟨h.os, h.tape, h.output, h.size, fun k hk => h.block k hk (by simp)⟩
theorem wp_make_full {P : Program} {w : World} {o : Oper} {a : Act} {K : Act → World → Prop} {Q : Exit → Act → World → Prop} (l c : Operand) (t : TypeId) (hop : o.op = Op.makeSlice t l c)
    (base : Nat) (e : TypeId) {i : TypeInfo} (h2 : P.info? e = some i) (z : Value) (size : Nat) (h1 : P.underlying t = some (.slice e)) (h3 : i.zero = some z) (h4 : i.size = size)
    (kl kc : IntKind) (n : Nat) (hl : a.eval l = .int kl (n : Int)) (hc : a.eval c = .int kc (n : Int)) (b2 : i.bytes * n ≤ 281474976710656) (b3 : n ≤ maxLen) (b4 : base ≤ w.heap.size)
    (hK : ∀ w', w'.ownsRow base e size (.slice (some ⟨w.heap.size, 0, none⟩) n n) n (madeCells z.cells (n * size)).toList → w.grownBy w' none → K (a.put o.dst (.slice (some ⟨w.heap.size, 0, none⟩) n n)) w') :
    o.wp P a w K Q := by
  obtain ⟨w', hrun, r1, r2⟩ := run_make_full (P := P) w base t e i z size h1 h2 h3 h4 kl kc n b2 b3 b4
  unfold Oper.wp
  simp [execOp, hop, hl, hc, hrun, Result.andThen]
  exact hK w' r1 r2
theorem LC_rep (n : Nat) : LC (List.replicate n eL) = List.replicate (2 * n) (.string ByteArray.empty) := by
  induction n with
  | zero => rfl
  | succ n ih => rw [List.replicate_succ, show eL = (ByteArray.empty, ByteArray.empty) from rfl, LC_cons, show 2 * (n + 1) = 2 * n + 1 + 1 by omega, List.replicate_succ, List.replicate_succ, ← ih]; rfl
theorem zeros_LC (n : Nat) : (madeCells ZL.cells (n * 2)).toList = LC (List.replicate n eL) := by
  rw [LC_rep, Nat.mul_comm n 2]
  apply List.ext_getElem?
  intro j
  have hz : ZL.cells = #[.string ByteArray.empty, .string ByteArray.empty] := rfl
  by_cases hj : j < 2 * n
  · have hm : j % 2 = 0 ∨ j % 2 = 1 := by omega
    rcases hm with h | h <;> simp [madeCells, hz, hj, h]
  · simp [madeCells, hz, hj]
theorem okZ (n : Nat) (h : n ≤ 1073741824) : okL (List.replicate n eL) := ⟨by simpa using h, fun x hx => by
  rw [List.mem_replicate] at hx
  rw [hx.2]; exact ⟨by decide, by decide⟩⟩
/-- A list of leaves in its cell. -/
def HasL (W : World) (B : Nat) (u : Value) : Prop := ∃ A L c, u = .slice A L.length c ∧ LsAt W B A L c ∧ L.length ≤ 11
theorem build33 : ∀ (W : World) (z : ByteArray), (Instr.buildSlice 33 2 #[(0, .agg #[.string ⟨#[97]⟩, .string z]), (1, .agg #[.string ⟨#[98]⟩, .string ⟨#[]⟩])]).run Tryd.prog W = .ok (.slice (some ⟨W.heap.size, 0, none⟩) 2 2) (W.alloc (.cells #[.string ⟨#[97]⟩, .string z, .string ⟨#[98]⟩, .string ⟨#[]⟩] 41)) := by
  intro W z; kernel_rfl
theorem lists_at {W : World} {B : Nat} {U0 U1 U2 : Value} (h0 : HasL W B U0) (h1 : HasL W B U1) (h2 : HasL W B U2) (i : Nat) (hi : i < 3) : ∃ U, [U0, U1, U2][i]? = some U ∧ HasL W B U := by
  have : i = 0 ∨ i = 1 ∨ i = 2 := by omega
  rcases this with rfl | rfl | rfl
  · exact ⟨U0, rfl, h0⟩
  · exact ⟨U1, rfl, h1⟩
  · exact ⟨U2, rfl, h2⟩
theorem HasL.below {W W' : World} {B : Nat} {u : Value} (h : HasL W B u) (hb : Below B W W') : HasL W' B u := by
  obtain ⟨A, L, c, e, h1, h2⟩ := h; exact ⟨A, L, c, e, h1.below hb, h2⟩
theorem HasL.more {W : World} {B B' : Nat} {u : Value} (h : HasL W B u) (hb : B ≤ B') : HasL W B' u := by
  obtain ⟨A, L, c, e, h1, h2⟩ := h; exact ⟨A, L, c, e, h1.more hb, h2⟩
set_option maxHeartbeats 16000000 in
theorem roots_walk (A : Option Addr) (l : List Int) (c : Nat) (A' : Option Addr) (raw : List Lf) (c' : Nat) (lg : Int) (w : World) (hl : l.length ≤ 281474976710656) (hr : Rd w w.heap.size A (I64 l)) (ho : ∀ x ∈ l, okInt x)
    (hl2 : raw.length ≤ 281474976710656) (hr2 : Rd w w.heap.size A' (LC raw)) (hs2 : ∀ x ∈ raw, x.1.size ≤ 9223372036854775807 ∧ x.2.size ≤ 9223372036854775807) (hg : okInt lg) (ht0 : Tab 0 w) (ht : Tab 1 w) :
    Calls Tryd.prog 3 #[.slice A l.length c, .slice A' raw.length c', .int .i64 lg] w fun e w' => e = .returned (.bool true) ∧ Below w.heap.size w w' := by
  have HT := Lib.hid ht
  have HT0 := Lib.hid ht0
  have hZ := hZ16
  have HC0 := Lib.hid (leaves_any A l c w hl hr ho)
  have HR0 := Lib.hid (fun (W : World) (hb : Below w.heap.size w W) => raws_any A' raw c' W hl2 ((hr2.below hb).more hb.size) hs2)
  obtain ⟨q, hq⟩ : ∃ q : Nat, ar lg 12 = (q : Int) := ⟨(ar lg 12).toNat, by have := (ar_bounds lg 12 (by decide)).1; omega⟩
  have hq12 : q < 12 := by have := (ar_bounds lg 12 (by decide)).2; omega
  have HAR := Lib.hid (fun W => around_any lg 12 hg.1 (by have := hg.2; omega) (by decide) (by decide) W)
  rw [hq] at HAR
  clear ht ht0 hl hr ho hl2 hr2 hs2 hg hq
  generalize l.length = N at HC0 ⊢
  generalize raw.length = N2 at HR0 ⊢
  go_enter Tryd.func3, Tryd.ntmps3
  go_wp2_with (go_at_call 10; refine HC0.out.mono ?_; rintro e w1 ⟨A1, c1, rfl, hcap, hnil, hrd, hb1⟩)
  have Bs1 := Lib.hid hb1
  have L1 := Lib.hid (show LsAt w1 w1.heap.size A1 (genL l) c1 from ⟨hrd, hcap, hnil, genL_ok l⟩)
  clear hb1 hcap hnil hrd HC0
  refine (HR0.out w1 Bs1.out).mono ?_; rintro e w2 ⟨R0, A2, c2, h8, hz, rfl, hcap, hnil, hrd, hb⟩
  have Bs2 := Lib.hid (Bs1.out.trans (hb.mono Bs1.out.size))
  have okR : okL R0 := ⟨by omega, fun x hx => ⟨by have := (hz x hx).1; omega, by have := (hz x hx).2; omega⟩⟩
  have U1 := Lib.hid (show HasL w2 w2.heap.size (.slice A1 (genL l).length c1) from ⟨A1, genL l, c1, rfl, (L1.out.below hb).more hb.size, genL_len l⟩)
  have U2 := Lib.hid (show HasL w2 w2.heap.size (.slice A2 R0.length c2) from ⟨A2, R0, c2, rfl, ⟨hrd, hcap, hnil, okR⟩, by omega⟩)
  have U3 := Lib.hid (show HasL w2 w2.heap.size (.slice none 0 0) from ⟨none, [], 0, rfl, ⟨Rd.nil, Nat.le_refl _, fun _ => rfl, ⟨by decide, fun x h => by cases h⟩⟩, by decide⟩)
  generalize (genL l).length = n1 at U1 ⊢
  clear okR hcap hz h8
  generalize R0.length = n2 at U2 ⊢
  obtain ⟨W3, hW3⟩ : ∃ W, W = w2.alloc (.cells #[.slice A1 n1 c1, .slice A2 n2 c2, .slice none 0 0] 24) := ⟨_, rfl⟩
  have hb3 : Below w2.heap.size w2 W3 := by rw [hW3]; exact (Below.refl _ _).alloc (Nat.le_refl _) _
  have Bs3 := Lib.hid (Bs2.out.trans (hb3.mono Bs2.out.size))
  have KL := Lib.hid (show Blk W3 w2.heap.size 24 [.slice A1 n1 c1, .slice A2 n2 c2, .slice none 0 0] by rw [hW3]; exact Blk.new w2 24 [.slice A1 n1 c1, .slice A2 n2 c2, .slice none 0 0])
  have HU := Lib.hid (fun i hi => lists_at ((U1.out.below hb3).more hb3.size) ((U2.out.below hb3).more hb3.size) ((U3.out.below hb3).more hb3.size) i hi)
  have HW3 := Lib.hid hW3
  clear hb hnil hrd L1 U1 U2 U3 hW3 hb3 HR0
  obtain ⟨gl, hgl⟩ : ∃ g, g = w2.heap.size := ⟨_, rfl⟩
  go_wp2_with fail
  rw [← hgl] at KL ⊢
  have HGL := Lib.hid hgl
  clear hgl
  go_loopw [8] (fun s8 wr => ∃ i : Nat, i ≤ 3 ∧ s8 = .int .i64 i ∧ Hid (Below W3.heap.size W3 wr)) (fun s8 _ => 3 - (intOf s8).toNat)
  case atStart => exact ⟨0, by omega, rfl, Lib.hid (by rw [HW3.out]; exact Below.refl _ _)⟩
  case round =>
  obtain ⟨i, hi3, rfl, HB⟩ := hrel
  clear HW3
  by_cases hlt : i < 3
  · obtain ⟨U, hU, A3, L, c3, rfl, hLS, hL11⟩ := HU.out i hlt
    have LS := Lib.hid hLS
    have hcell : W3.cell? ⟨gl, i, none⟩ = some (.slice A3 L.length c3) := (KL.out.cell i).trans hU
    have HCE := Lib.hid hcell
    have hltI : (i : Int) < 3 := by omega
    obtain ⟨R, hR⟩ : ∃ R, R = rootR L := ⟨_, rfl⟩
    have HR := Lib.hid hR
    have HRl := Lib.hid (show R.length = 16 by rw [hR]; exact rootR_len L)
    obtain ⟨V, hV⟩ : ∃ V, V = validE L := ⟨_, rfl⟩
    have HV := Lib.hid hV
    obtain ⟨NL, hNL⟩ : ∃ n, n = L.length := ⟨_, rfl⟩
    have HNL := Lib.hid hNL
    rw [← hNL] at HCE
    have hglt : gl < W3.heap.size := KL.out.lt
    have Bw := Lib.hid (Bs3.out.trans (HB.out.mono Bs3.out.size))
    have hc1 : wr.cell? ⟨gl, i, none⟩ = some (.slice A3 NL c3) := (HB.out.cell (p := ⟨gl, i, none⟩) hglt).trans HCE.out
    have HO := own_any A3 L c3 wr (by omega) ((LS.out.below HB.out).more HB.out.size).rd
    rw [← hNL] at HO hL11
    have HO := Lib.hid HO
    clear hcell hU hLS hR hV hNL
    go_wp2_with (go_at_call 13; refine HO.out.mono ?_; rintro e w3 ⟨Aa, ca, rfl, hcap, hnil, hrd, hb⟩; have Oa := Lib.hid (show LsAt w3 w3.heap.size Aa L ca from ⟨hrd, by rw [← HNL.out]; exact hcap, hnil, LS.out.ok⟩); have B3 := Lib.hid (HB.out.trans (hb.mono HB.out.size)); have HC := root_any Aa L ca w3 Oa.out (HT.out.below (Bs3.out.trans (B3.out.mono Bs3.out.size)) HT.out.1) R HR; rw [← HV.out, ← HNL.out] at HC; have HC := Lib.hid HC; clear hb hcap hnil hrd)
    refine HC.out.mono ?_; rintro e w4 ⟨rfl, hb⟩
    have B4 := Lib.hid (B3.out.trans (hb.mono B3.out.size))
    obtain ⟨W5, hW5⟩ : ∃ W, W = (w4.alloc (.cells Z16.toArray 29)).setRow w4.heap.size (B8 R).toArray := ⟨_, rfl⟩
    have hb5 : Below w4.heap.size w4 W5 := by rw [hW5]; exact belowRow ((Below.refl _ _).alloc (Nat.le_refl _) _) (Nat.le_refl _) _
    have B5 := Lib.hid (B4.out.trans (hb5.mono B4.out.size))
    have R5 := Lib.hid (show Blk W5 w4.heap.size 29 (B8 R) by rw [hW5]; exact (Blk.new w4 29 Z16).row _)
    have HE := Lib.hid hW5
    have hc2 : W5.cell? ⟨gl, i, none⟩ = some (.slice A3 NL c3) := (B5.out.cell (p := ⟨gl, i, none⟩) hglt).trans HCE.out
    clear hW5 hb5 hb Oa HC HO hc1
    go_upto_region 6 with (with_reducible refine wpList_store_row rfl 29 (.tmp 9) (.tmp 33) rfl w4.heap.size (B8 R).toArray rfl rfl 29 _ (heap_alloc_new w4 _) (size29' _ HRl.out) (Z16_size _ HRl.out) (one8 _) ?_)
    rw [← HE.out]
    clear HE
    obtain ⟨g9, hg9⟩ : ∃ g, g = w4.heap.size := ⟨_, rfl⟩
    rw [← hg9] at R5 ⊢
    have HC := rroot_any A3 L c3 W5 ((LS.out.below B5.out).more B5.out.size) (HT0.out.below (Bs3.out.trans (B5.out.mono Bs3.out.size)) HT0.out.1) R HR
    rw [← HV.out, ← HNL.out] at HC
    have HC := Lib.hid HC
    go_wp2_with fail
    refine HC.out.mono ?_; rintro e w5 ⟨rfl, hb⟩
    have B6 := Lib.hid (B5.out.trans (hb.mono B5.out.size))
    have R6 := Lib.hid (R5.out.below hb R5.out.lt)
    obtain ⟨W6, hW6⟩ : ∃ W, W = (w5.alloc (.cells Z16.toArray 29)).setRow w5.heap.size (B8 R).toArray := ⟨_, rfl⟩
    have hb6 : Below w5.heap.size w5 W6 := by rw [hW6]; exact belowRow ((Below.refl _ _).alloc (Nat.le_refl _) _) (Nat.le_refl _) _
    have K6 := Lib.hid (B6.out.trans (hb6.mono B6.out.size))
    have HS6 := Lib.hid (show W6.cell? ⟨gl, i, none⟩ = some (.slice A3 NL c3) ∧ Blk W6 g9 29 (B8 R) ∧ Blk W6 w5.heap.size 29 (B8 R) from ⟨(K6.out.cell (p := ⟨gl, i, none⟩) hglt).trans HCE.out, R6.out.below hb6 R6.out.lt, by rw [hW6]; exact (Blk.new w5 29 Z16).row _⟩)
    have HE := Lib.hid hW6
    clear hW6 hb6 hb HC hc2 R5 R6 hg9
    go_upto_region 7 with (with_reducible refine wpList_store_row rfl 29 (.tmp 11) (.tmp 41) rfl w5.heap.size (B8 R).toArray rfl rfl 29 _ (heap_alloc_new w5 _) (size29' _ HRl.out) (Z16_size _ HRl.out) (one8 _) ?_)
    rw [← HE.out]
    clear HE
    obtain ⟨g11, hg11⟩ : ∃ g, g = w5.heap.size := ⟨_, rfl⟩
    rw [← hg11] at HS6 ⊢
    clear hg11
    rename Option Addr => A
    go_cut [64] from 20 to 64 (fun s64 wx => s64 = .bool false ∧ Hid (Below W3.heap.size W3 wx))
    case first =>
      refine wp_region_held (S := fun W => W.cell? ⟨gl, i, none⟩ = some (.slice A3 NL c3) ∧ Blk W g9 29 (B8 R) ∧ Blk W g11 29 (B8 R)) (by kernel_rfl) ?_
      change wpAnyH _ _ _ _ _ _ _ _ (World.drew W6)
      have k0 := Lib.hid K6.out.drew
      have hs0 : (World.drew W6).cell? ⟨gl, i, none⟩ = some (.slice A3 NL c3) ∧ Blk (World.drew W6) g9 29 (B8 R) ∧ Blk (World.drew W6) g11 29 (B8 R) := HS6.out
      generalize World.drew W6 = Wd at k0 hs0 ⊢
      refine wpAnyH_take (i := 0) (oi := { dst := some 43, op := Op.move (Operand.tmp 7), type := 27, pos := "law.go:98", after := #[], guard := none }) (v := .slice (some ⟨gl, 0, none⟩) 3 3) rfl (by kernel_rfl) (by kernel_rfl) (by kernel_rfl) (fun _ _ _ h => h) (Or.inl ⟨by rfl, fun W hW => ?y1⟩) hs0 ?_
      case y1 => go_simp
      try dsimp only [Act.put]
      try simp only [List.setIfInBounds_toArray, List.set_cons_zero, List.set_cons_succ]
      refine wpAnyH_take (i := 1) (oi := { dst := some 44, op := Op.move (Operand.tmp 8), type := 3, pos := "law.go:98", after := #[], guard := none }) (v := .int .i64 (i : Int)) rfl (by kernel_rfl) (by kernel_rfl) (by kernel_rfl) (fun _ _ _ h => h) (Or.inl ⟨by rfl, fun W hW => ?y2⟩) hs0 ?_
      case y2 => go_simp
      try dsimp only [Act.put]
      try simp only [List.setIfInBounds_toArray, List.set_cons_zero, List.set_cons_succ]
      refine wpAnyH_take (i := 2) (oi := { dst := some 45, op := Op.indexAddr 27 (Operand.tmp 43) (Operand.tmp 44), type := 0, pos := "law.go:98", after := #[{ on := 0, ground := Ground.data }, { on := 1, ground := Ground.data }], guard := none }) (v := .pointer (some ⟨gl, i, none⟩)) rfl (by kernel_rfl) (by kernel_rfl) (by kernel_rfl) (fun _ _ _ h => h) (Or.inl ⟨by rfl, fun W hW => ?y3⟩) hs0 ?_
      case y3 => go_simp
      try dsimp only [Act.put]
      try simp only [List.setIfInBounds_toArray, List.set_cons_zero, List.set_cons_succ]
      refine wpAnyH_take (i := 3) (oi := { dst := some 46, op := Op.load 24 (Operand.tmp 45), type := 24, pos := "law.go:98", after := #[{ on := 2, ground := Ground.data }], guard := none }) (v := .slice A3 NL c3) rfl (by kernel_rfl) (by kernel_rfl) (by kernel_rfl) (fun _ _ _ h => h) (Or.inl ⟨by rfl, fun W hW => by have hcl := hW.1; go_simp⟩) hs0 ?_
      try dsimp only [Act.put]
      try simp only [List.setIfInBounds_toArray, List.set_cons_zero, List.set_cons_succ]
      refine wpAnyH_take (i := 6) (oi := { dst := some 49, op := Op.move (Operand.tmp 7), type := 27, pos := "law.go:98", after := #[], guard := none }) (v := .slice (some ⟨gl, 0, none⟩) 3 3) rfl (by kernel_rfl) (by kernel_rfl) (by kernel_rfl) (fun _ _ _ h => h) (Or.inl ⟨by rfl, fun W hW => ?y5⟩) hs0 ?_
      case y5 => go_simp
      try dsimp only [Act.put]
      try simp only [List.setIfInBounds_toArray, List.set_cons_zero, List.set_cons_succ]
      refine wpAnyH_take (i := 7) (oi := { dst := some 50, op := Op.move (Operand.tmp 8), type := 3, pos := "law.go:98", after := #[], guard := none }) (v := .int .i64 (i : Int)) rfl (by kernel_rfl) (by kernel_rfl) (by kernel_rfl) (fun _ _ _ h => h) (Or.inl ⟨by rfl, fun W hW => ?y6⟩) hs0 ?_
      case y6 => go_simp
      try dsimp only [Act.put]
      try simp only [List.setIfInBounds_toArray, List.set_cons_zero, List.set_cons_succ]
      refine wpAnyH_take (i := 8) (oi := { dst := some 51, op := Op.indexAddr 27 (Operand.tmp 49) (Operand.tmp 50), type := 0, pos := "law.go:98", after := #[{ on := 6, ground := Ground.data }, { on := 7, ground := Ground.data }], guard := none }) (v := .pointer (some ⟨gl, i, none⟩)) rfl (by kernel_rfl) (by kernel_rfl) (by kernel_rfl) (fun _ _ _ h => h) (Or.inl ⟨by rfl, fun W hW => ?y7⟩) hs0 ?_
      case y7 => go_simp
      try dsimp only [Act.put]
      try simp only [List.setIfInBounds_toArray, List.set_cons_zero, List.set_cons_succ]
      refine wpAnyH_take (i := 9) (oi := { dst := some 52, op := Op.load 24 (Operand.tmp 51), type := 24, pos := "law.go:98", after := #[{ on := 8, ground := Ground.data }], guard := none }) (v := .slice A3 NL c3) rfl (by kernel_rfl) (by kernel_rfl) (by kernel_rfl) (fun _ _ _ h => h) (Or.inl ⟨by rfl, fun W hW => by have hcl := hW.1; go_simp⟩) hs0 ?_
      try dsimp only [Act.put]
      try simp only [List.setIfInBounds_toArray, List.set_cons_zero, List.set_cons_succ]
      refine wpAnyH_ready (rs := [4]) (by kernel_rfl) (by simp) ?_
      refine AllReadyH.cons (o := { dst := some 47, op := Op.call { callee := Callee.value (Operand.func 13), args := #[Operand.tmp 46], argTypes := #[24] }, type := 33, pos := "law.go:98", after := #[{ on := 3, ground := Ground.data }], guard := none }) rfl (fun K hK => ?_) AllReadyH.nil
      rw [if_pos (by rfl)]
      have HC := own_any A3 L c3 Wd (by rw [← HNL.out]; omega) ((LS.out.below k0.out).more k0.out.size).rd
      rw [← HNL.out] at HC
      go_simp
      refine HC.mono ?_; rintro e w11 ⟨A', c', rfl, hcap, hnil, hrd, hbt⟩
      clear HC
      have k9 := Lib.hid (k0.out.trans (hbt.mono k0.out.size))
      have hs10 := s7_below hs0 hbt
      have O4 := Lib.hid (show LsAt _ _ A' L c' from ⟨hrd, by rw [← HNL.out]; exact hcap, hnil, LS.out.ok⟩)
      clear hcap hnil hrd
      clear hbt
      go_wp2_with fail
      refine hK.out _ _ hs10 (fun _ => ?_)
      clear hK K
      try dsimp only [Act.put]
      try simp only [List.setIfInBounds_toArray, List.set_cons_zero, List.set_cons_succ]
      refine wpAnyH_ready (rs := [5]) (by kernel_rfl) (by simp) ?_
      refine AllReadyH.cons (o := { dst := some 48, op := Op.call { callee := Callee.value (Operand.func 15), args := #[Operand.tmp 47], argTypes := #[33] }, type := 30, pos := "law.go:98", after := #[{ on := 4, ground := Ground.data }, { on := 4, ground := Ground.chain }], guard := none }) rfl (fun K hK => ?_) AllReadyH.nil
      rw [if_pos (by rfl)]
      have HC := valid_any A' L c' w11 LS.out.ok O4.out.rd
      rw [← HNL.out, ← HV.out] at HC
      go_simp
      refine HC.mono ?_; rintro e w14 ⟨rfl, hbt⟩
      clear HC
      have k12 := Lib.hid (k9.out.trans (hbt.mono k9.out.size))
      have hs13 := s7_below hs10 hbt
      have o15 := Lib.hid ((O4.out.below hbt).more hbt.size)
      clear hbt
      go_wp2_with fail
      refine hK.out _ _ hs13 (fun _ => ?_)
      clear hK K
      try dsimp only [Act.put]
      try simp only [List.setIfInBounds_toArray, List.set_cons_zero, List.set_cons_succ]
      refine wpAnyH_ready (rs := [10]) (by kernel_rfl) (by simp) ?_
      refine AllReadyH.cons (o := { dst := some 53, op := Op.call { callee := Callee.value (Operand.func 16), args := #[Operand.tmp 52], argTypes := #[24] }, type := 30, pos := "law.go:98", after := #[{ on := 9, ground := Ground.data }, { on := 5, ground := Ground.chain }], guard := none }) rfl (fun K hK => ?_) AllReadyH.nil
      rw [if_pos (by rfl)]
      have HC := rvalid_any A3 L c3 w14 LS.out.ok ((LS.out.below k12.out).more k12.out.size).rd
      rw [← HNL.out, ← HV.out] at HC
      go_simp
      refine HC.mono ?_; rintro e w18 ⟨rfl, hbt⟩
      clear HC
      have k16 := Lib.hid (k12.out.trans (hbt.mono k12.out.size))
      have hs17 := s7_below hs13 hbt
      have o19 := Lib.hid ((o15.out.below hbt).more hbt.size)
      clear hbt
      go_wp2_with fail
      refine hK.out _ _ hs17 (fun _ => ?_)
      clear hK K
      try dsimp only [Act.put]
      try simp only [List.setIfInBounds_toArray, List.set_cons_zero, List.set_cons_succ]
      refine wpAnyH_take (i := 11) (oi := { dst := some 54, op := Op.binOp BinOp.neq 30 (Operand.tmp 48) (Operand.tmp 53) 30, type := 4, pos := "law.go:98", after := #[{ on := 5, ground := Ground.data }, { on := 10, ground := Ground.data }], guard := none }) (v := .bool false) rfl (by kernel_rfl) (by kernel_rfl) (by kernel_rfl) (fun _ _ _ h => h) (Or.inl ⟨by rfl, fun W hW => ?y20⟩) hs17 ?_
      case y20 => go_simp
      try dsimp only [Act.put]
      try simp only [List.setIfInBounds_toArray, List.set_cons_zero, List.set_cons_succ]
      refine wpAnyH_take (i := 12) (oi := { dst := some 55, op := Op.move (Operand.tmp 54), type := 4, pos := "law.go:98", after := #[{ on := 11, ground := Ground.data }, { on := 10, ground := Ground.chain }], guard := none }) (v := .bool false) rfl (by kernel_rfl) (by kernel_rfl) (by kernel_rfl) (fun _ _ _ h => h) (Or.inl ⟨by rfl, fun W hW => ?y21⟩) hs17 ?_
      case y21 => go_simp
      try dsimp only [Act.put]
      try simp only [List.setIfInBounds_toArray, List.set_cons_zero, List.set_cons_succ]
      refine wpAnyH_take (i := 13) (oi := { dst := some 56, op := Op.move (Operand.tmp 10), type := 30, pos := "law.go:98", after := #[{ on := 12, ground := Ground.guard }], guard := some (12, false) }) (v := .int .i64 V) rfl (by kernel_rfl) (by kernel_rfl) (by kernel_rfl) (fun _ _ _ h => h) (Or.inl ⟨by rfl, fun W hW => ?y22⟩) hs17 ?_
      case y22 => go_simp
      try dsimp only [Act.put]
      try simp only [List.setIfInBounds_toArray, List.set_cons_zero, List.set_cons_succ]
      refine wpAnyH_take (i := 14) (oi := { dst := some 57, op := Op.move (Operand.tmp 12), type := 30, pos := "law.go:98", after := #[{ on := 12, ground := Ground.guard }], guard := some (12, false) }) (v := .int .i64 V) rfl (by kernel_rfl) (by kernel_rfl) (by kernel_rfl) (fun _ _ _ h => h) (Or.inl ⟨by rfl, fun W hW => ?y23⟩) hs17 ?_
      case y23 => go_simp
      try dsimp only [Act.put]
      try simp only [List.setIfInBounds_toArray, List.set_cons_zero, List.set_cons_succ]
      refine wpAnyH_take (i := 15) (oi := { dst := some 58, op := Op.binOp BinOp.neq 30 (Operand.tmp 56) (Operand.tmp 57) 30, type := 4, pos := "law.go:98", after := #[{ on := 13, ground := Ground.data }, { on := 14, ground := Ground.data }, { on := 12, ground := Ground.guard }], guard := some (12, false) }) (v := .bool false) rfl (by kernel_rfl) (by kernel_rfl) (by kernel_rfl) (fun _ _ _ h => h) (Or.inl ⟨by rfl, fun W hW => ?y24⟩) hs17 ?_
      case y24 => go_simp
      try dsimp only [Act.put]
      try simp only [List.setIfInBounds_toArray, List.set_cons_zero, List.set_cons_succ]
      refine wpAnyH_take (i := 16) (oi := { dst := some 59, op := Op.pick (Operand.tmp 55) (Operand.const (Value.bool true)) (Operand.tmp 58), type := 4, pos := "law.go:98", after := #[{ on := 12, ground := Ground.data }, { on := 15, ground := Ground.data }], guard := none }) (v := .bool false) rfl (by kernel_rfl) (by kernel_rfl) (by kernel_rfl) (fun _ _ _ h => h) (Or.inl ⟨by rfl, fun W hW => ?y25⟩) hs17 ?_
      case y25 => go_simp
      try dsimp only [Act.put]
      try simp only [List.setIfInBounds_toArray, List.set_cons_zero, List.set_cons_succ]
      refine wpAnyH_take (i := 17) (oi := { dst := some 60, op := Op.move (Operand.tmp 59), type := 4, pos := "law.go:98", after := #[{ on := 16, ground := Ground.data }, { on := 12, ground := Ground.chain }], guard := none }) (v := .bool false) rfl (by kernel_rfl) (by kernel_rfl) (by kernel_rfl) (fun _ _ _ h => h) (Or.inl ⟨by rfl, fun W hW => ?y26⟩) hs17 ?_
      case y26 => go_simp
      try dsimp only [Act.put]
      try simp only [List.setIfInBounds_toArray, List.set_cons_zero, List.set_cons_succ]
      refine wpAnyH_take (i := 18) (oi := { dst := some 61, op := Op.load 29 (Operand.tmp 9), type := 29, pos := "law.go:98", after := #[{ on := 17, ground := Ground.guard }], guard := some (17, false) }) (v := .agg (B8 R).toArray) rfl (by kernel_rfl) (by kernel_rfl) (by kernel_rfl) (fun _ _ _ h => h) (Or.inl ⟨by rfl, fun W hW => exec_load_row _ _ 29 (.tmp 9) rfl ⟨g9, 0, none⟩ rfl (B8 R) W (run_loadVar_at W _ 29 (B8 R) (.array 16 5) (Blk.at hW.2.1) Tryd.underlying29 rfl (size29 _ HRl.out))⟩) hs17 ?_
      try dsimp only [Act.put]
      try simp only [List.setIfInBounds_toArray, List.set_cons_zero, List.set_cons_succ]
      refine wpAnyH_take (i := 19) (oi := { dst := some 62, op := Op.load 29 (Operand.tmp 11), type := 29, pos := "law.go:98", after := #[{ on := 17, ground := Ground.guard }], guard := some (17, false) }) (v := .agg (B8 R).toArray) rfl (by kernel_rfl) (by kernel_rfl) (by kernel_rfl) (fun _ _ _ h => h) (Or.inl ⟨by rfl, fun W hW => exec_load_row _ _ 29 (.tmp 11) rfl ⟨g11, 0, none⟩ rfl (B8 R) W (run_loadVar_at W _ 29 (B8 R) (.array 16 5) (Blk.at hW.2.2) Tryd.underlying29 rfl (size29 _ HRl.out))⟩) hs17 ?_
      try dsimp only [Act.put]
      try simp only [List.setIfInBounds_toArray, List.set_cons_zero, List.set_cons_succ]
      refine wpAnyH_take (i := 20) (oi := { dst := some 63, op := Op.binOp BinOp.neq 29 (Operand.tmp 61) (Operand.tmp 62) 29, type := 4, pos := "law.go:98", after := #[{ on := 18, ground := Ground.data }, { on := 19, ground := Ground.data }, { on := 17, ground := Ground.guard }], guard := some (17, false) }) (v := .bool false) rfl (by kernel_rfl) (by kernel_rfl) (by kernel_rfl) (fun _ _ _ h => h) (Or.inl ⟨by rfl, fun W hW => by have heq := eqi29s R HRl.out W; go_simp⟩) hs17 ?_
      try dsimp only [Act.put]
      try simp only [List.setIfInBounds_toArray, List.set_cons_zero, List.set_cons_succ]
      refine wpAnyH_take (i := 21) (oi := { dst := some 64, op := Op.pick (Operand.tmp 60) (Operand.const (Value.bool true)) (Operand.tmp 63), type := 4, pos := "law.go:98", after := #[{ on := 17, ground := Ground.data }, { on := 20, ground := Ground.data }], guard := none }) (v := .bool false) rfl (by kernel_rfl) (by kernel_rfl) (by kernel_rfl) (fun _ _ _ h => h) (Or.inl ⟨by rfl, fun W hW => ?y30⟩) hs17 ?_
      case y30 => go_simp
      try dsimp only [Act.put]
      try simp only [List.setIfInBounds_toArray, List.set_cons_zero, List.set_cons_succ]
      refine wpAnyH_done (by kernel_rfl) ?_ _
      try dsimp only [Act.put]
      try simp only [List.setIfInBounds_toArray, List.set_cons_zero, List.set_cons_succ]
      have KE := k16
      go_wp2_with fail
      go_meet
      exact ⟨rfl, KE⟩
    case rest =>
      obtain ⟨rfl, KE⟩ := hcut
      go_wp2_with fail
      go_roundw
      case rel => exact ⟨i + 1, by omega, by go_num, KE⟩
      case measure => simp only [intOf]; omega
  · obtain rfl : i = 3 := by omega
    have Bw := Lib.hid (Bs3.out.trans (HB.out.mono Bs3.out.size))
    obtain ⟨n, hn⟩ : ∃ n, n = 4090 + q := ⟨_, rfl⟩
    have hnI : (4090 : Int) + (q : Int) = (n : Int) := by omega
    have HNZ := Lib.hid (show n ≤ 1073741824 by omega)
    obtain ⟨VZ, hVZ⟩ : ∃ V, V = validE (List.replicate n eL) := ⟨_, rfl⟩
    have HVZ := Lib.hid hVZ.symm
    obtain ⟨i41, hi41⟩ := info_parts info41
    obtain ⟨i87, hi87⟩ := info_parts info87
    have HI41 := Lib.hid hi41
    have HI87 := Lib.hid hi87
    clear hn hVZ hi41 hi87 HU KL HB
    go_upto_region 10 with (go_at_call 17; refine (HAR.out _).mono ?_; rintro e wx ⟨rfl, rfl⟩)
    rename World => w7
    have K7 := Bw
    clear Bw
    go_cut [74] from 68 (fun s74 wx => s74 = .bool false ∧ Hid (Below w.heap.size w wx))
    case first =>
      refine wp_region_any (by kernel_rfl) ?_
      change wpAny _ _ _ _ _ _ _ (World.drew w7)
      have k0 := Lib.hid K7.out.drew
      generalize World.drew w7 = Wd at k0 ⊢
      refine wpAny_take (i := 0) (oi := { dst := some 68, op := Op.move (Operand.tmp 13), type := 3, pos := "law.go:103", after := #[], guard := none }) (v := .int .i64 (n : Int)) rfl (by kernel_rfl) (by kernel_rfl) (by kernel_rfl) (fun _ _ _ h => h) (Or.inl ⟨by rfl, fun W => ?y1⟩) ?_
      case y1 => go_simp
      try dsimp only [Act.put]
      try simp only [List.setIfInBounds_toArray, List.set_cons_zero, List.set_cons_succ]
      refine wpAny_take (i := 3) (oi := { dst := some 71, op := Op.move (Operand.tmp 13), type := 3, pos := "law.go:103", after := #[], guard := none }) (v := .int .i64 (n : Int)) rfl (by kernel_rfl) (by kernel_rfl) (by kernel_rfl) (fun _ _ _ h => h) (Or.inl ⟨by rfl, fun W => ?y2⟩) ?_
      case y2 => go_simp
      try dsimp only [Act.put]
      try simp only [List.setIfInBounds_toArray, List.set_cons_zero, List.set_cons_succ]
      refine wpAny_ready (rs := [1, 4]) (by kernel_rfl) (by simp) ?_
      refine AllReady.cons (o := { dst := some 69, op := Op.makeSlice 33 (Operand.tmp 68) (Operand.tmp 68), type := 33, pos := "law.go:103", after := #[{ on := 0, ground := Ground.data }, { on := 0, ground := Ground.data }], guard := none }) rfl (fun K hK => ?_) (AllReady.cons (o := { dst := some 72, op := Op.makeSlice 24 (Operand.tmp 71) (Operand.tmp 71), type := 24, pos := "law.go:103", after := #[{ on := 3, ground := Ground.data }, { on := 3, ground := Ground.data }], guard := none }) rfl (fun K hK => ?_) AllReady.nil)
      · rw [if_pos (by rfl)]
        refine wp_make_full (.tmp 68) (.tmp 68) 33 rfl w.heap.size 41 HI41.out.1 ZL 2 (by kernel_rfl) HI41.out.2.1 HI41.out.2.2.1 .i64 .i64 n rfl rfl (by rw [HI41.out.2.2.2]; omega) (by unfold maxLen; omega) k0.out.size ?_
        intro w5 ho hg
        have hbt := below_none hg
        have k3 := Lib.hid (k0.out.trans (hbt.mono k0.out.size))
        have o4 := Lib.hid (show LsAt w5 w5.heap.size (some ⟨Wd.heap.size, 0, none⟩) (List.replicate n eL) n from ⟨by have := Rd.of_own ho; rw [zeros_LC] at this; exact this, by simp, (fun h => by cases h), okZ n HNZ.out⟩)
        clear ho hg hbt
        (try (refine hK _ _ ?_; clear hK K))
        try dsimp only [Act.put]
        try simp only [List.setIfInBounds_toArray, List.set_cons_zero, List.set_cons_succ]
        refine wpAny_ready (rs := [2, 4]) (by kernel_rfl) (by simp) ?_
        refine AllReady.cons (o := { dst := some 70, op := Op.call { callee := Callee.value (Operand.func 15), args := #[Operand.tmp 69], argTypes := #[33] }, type := 30, pos := "law.go:103", after := #[{ on := 1, ground := Ground.data }], guard := none }) rfl (fun K hK => ?_) (AllReady.cons (o := { dst := some 72, op := Op.makeSlice 24 (Operand.tmp 71) (Operand.tmp 71), type := 24, pos := "law.go:103", after := #[{ on := 3, ground := Ground.data }, { on := 3, ground := Ground.data }], guard := none }) rfl (fun K hK => ?_) AllReady.nil)
        · rw [if_pos (by rfl)]
          have HC := valid_any _ (List.replicate n eL) n w5 o4.out.ok o4.out.rd
          rw [HVZ.out, List.length_replicate] at HC
          go_simp
          refine HC.mono ?_; rintro e w7 ⟨rfl, hbt⟩
          have k6 := Lib.hid (k3.out.trans (hbt.mono k3.out.size))
          have o8 := Lib.hid ((o4.out.below hbt).more hbt.size)
          clear hbt HC
          go_wp2_with fail
          (try (refine hK _ _ ?_; clear hK K))
          try dsimp only [Act.put]
          try simp only [List.setIfInBounds_toArray, List.set_cons_zero, List.set_cons_succ]
          refine wpAny_ready (rs := [4]) (by kernel_rfl) (by simp) ?_
          refine AllReady.cons (o := { dst := some 72, op := Op.makeSlice 24 (Operand.tmp 71) (Operand.tmp 71), type := 24, pos := "law.go:103", after := #[{ on := 3, ground := Ground.data }, { on := 3, ground := Ground.data }], guard := none }) rfl (fun K hK => ?_) AllReady.nil
          rw [if_pos (by rfl)]
          refine wp_make_full (.tmp 71) (.tmp 71) 24 rfl w.heap.size 87 HI87.out.1 ZL 2 (by kernel_rfl) HI87.out.2.1 HI87.out.2.2.1 .i64 .i64 n rfl rfl (by rw [HI87.out.2.2.2]; omega) (by unfold maxLen; omega) k6.out.size ?_
          intro w11 ho hg
          have hbt := below_none hg
          have k9 := Lib.hid (k6.out.trans (hbt.mono k6.out.size))
          have o10 := Lib.hid (show LsAt w11 w11.heap.size (some ⟨w7.heap.size, 0, none⟩) (List.replicate n eL) n from ⟨by have := Rd.of_own ho; rw [zeros_LC] at this; exact this, by simp, (fun h => by cases h), okZ n HNZ.out⟩)
          have o12 := Lib.hid ((o8.out.below hbt).more hbt.size)
          clear ho hg hbt
          (try (refine hK _ _ ?_; clear hK K))
          try dsimp only [Act.put]
          try simp only [List.setIfInBounds_toArray, List.set_cons_zero, List.set_cons_succ]
          refine wpAny_ready (rs := [5]) (by kernel_rfl) (by simp) ?_
          refine AllReady.cons (o := { dst := some 73, op := Op.call { callee := Callee.value (Operand.func 16), args := #[Operand.tmp 72], argTypes := #[24] }, type := 30, pos := "law.go:103", after := #[{ on := 4, ground := Ground.data }, { on := 2, ground := Ground.chain }], guard := none }) rfl (fun K hK => ?_) AllReady.nil
          rw [if_pos (by rfl)]
          have HC := rvalid_any _ (List.replicate n eL) n w11 o10.out.ok o10.out.rd
          rw [HVZ.out, List.length_replicate] at HC
          go_simp
          refine HC.mono ?_; rintro e w14 ⟨rfl, hbt⟩
          have k13 := Lib.hid (k9.out.trans (hbt.mono k9.out.size))
          have o15 := Lib.hid ((o12.out.below hbt).more hbt.size)
          have o16 := Lib.hid ((o10.out.below hbt).more hbt.size)
          clear hbt HC
          go_wp2_with fail
          (try (refine hK _ _ ?_; clear hK K))
          try dsimp only [Act.put]
          try simp only [List.setIfInBounds_toArray, List.set_cons_zero, List.set_cons_succ]
          refine wpAny_take (i := 6) (oi := { dst := some 74, op := Op.binOp BinOp.neq 30 (Operand.tmp 70) (Operand.tmp 73) 30, type := 4, pos := "law.go:103", after := #[{ on := 2, ground := Ground.data }, { on := 5, ground := Ground.data }], guard := none }) (v := .bool false) rfl (by kernel_rfl) (by kernel_rfl) (by kernel_rfl) (fun _ _ _ h => h) (Or.inl ⟨by rfl, fun W => ?y17⟩) ?_
          case y17 => go_simp
          try dsimp only [Act.put]
          try simp only [List.setIfInBounds_toArray, List.set_cons_zero, List.set_cons_succ]
          refine wpAny_done (by kernel_rfl) ?_ _
          try dsimp only [Act.put]
          try simp only [List.setIfInBounds_toArray, List.set_cons_zero, List.set_cons_succ]
          have KE := k13
          go_wp2_with fail
          go_meet
          exact ⟨rfl, KE⟩
        · rw [if_pos (by rfl)]
          refine wp_make_full (.tmp 71) (.tmp 71) 24 rfl w.heap.size 87 HI87.out.1 ZL 2 (by kernel_rfl) HI87.out.2.1 HI87.out.2.2.1 .i64 .i64 n rfl rfl (by rw [HI87.out.2.2.2]; omega) (by unfold maxLen; omega) k3.out.size ?_
          intro w20 ho hg
          have hbt := below_none hg
          have k18 := Lib.hid (k3.out.trans (hbt.mono k3.out.size))
          have o19 := Lib.hid (show LsAt w20 w20.heap.size (some ⟨w5.heap.size, 0, none⟩) (List.replicate n eL) n from ⟨by have := Rd.of_own ho; rw [zeros_LC] at this; exact this, by simp, (fun h => by cases h), okZ n HNZ.out⟩)
          have o21 := Lib.hid ((o4.out.below hbt).more hbt.size)
          clear ho hg hbt
          (try (refine hK _ _ ?_; clear hK K))
          try dsimp only [Act.put]
          try simp only [List.setIfInBounds_toArray, List.set_cons_zero, List.set_cons_succ]
          refine wpAny_ready (rs := [2]) (by kernel_rfl) (by simp) ?_
          refine AllReady.cons (o := { dst := some 70, op := Op.call { callee := Callee.value (Operand.func 15), args := #[Operand.tmp 69], argTypes := #[33] }, type := 30, pos := "law.go:103", after := #[{ on := 1, ground := Ground.data }], guard := none }) rfl (fun K hK => ?_) AllReady.nil
          rw [if_pos (by rfl)]
          have HC := valid_any _ (List.replicate n eL) n w20 o21.out.ok o21.out.rd
          rw [HVZ.out, List.length_replicate] at HC
          go_simp
          refine HC.mono ?_; rintro e w23 ⟨rfl, hbt⟩
          have k22 := Lib.hid (k18.out.trans (hbt.mono k18.out.size))
          have o24 := Lib.hid ((o21.out.below hbt).more hbt.size)
          have o25 := Lib.hid ((o19.out.below hbt).more hbt.size)
          clear hbt HC
          go_wp2_with fail
          (try (refine hK _ _ ?_; clear hK K))
          try dsimp only [Act.put]
          try simp only [List.setIfInBounds_toArray, List.set_cons_zero, List.set_cons_succ]
          refine wpAny_ready (rs := [5]) (by kernel_rfl) (by simp) ?_
          refine AllReady.cons (o := { dst := some 73, op := Op.call { callee := Callee.value (Operand.func 16), args := #[Operand.tmp 72], argTypes := #[24] }, type := 30, pos := "law.go:103", after := #[{ on := 4, ground := Ground.data }, { on := 2, ground := Ground.chain }], guard := none }) rfl (fun K hK => ?_) AllReady.nil
          rw [if_pos (by rfl)]
          have HC := rvalid_any _ (List.replicate n eL) n w23 o25.out.ok o25.out.rd
          rw [HVZ.out, List.length_replicate] at HC
          go_simp
          refine HC.mono ?_; rintro e w27 ⟨rfl, hbt⟩
          have k26 := Lib.hid (k22.out.trans (hbt.mono k22.out.size))
          have o28 := Lib.hid ((o24.out.below hbt).more hbt.size)
          have o29 := Lib.hid ((o25.out.below hbt).more hbt.size)
          clear hbt HC
          go_wp2_with fail
          (try (refine hK _ _ ?_; clear hK K))
          try dsimp only [Act.put]
          try simp only [List.setIfInBounds_toArray, List.set_cons_zero, List.set_cons_succ]
          refine wpAny_take (i := 6) (oi := { dst := some 74, op := Op.binOp BinOp.neq 30 (Operand.tmp 70) (Operand.tmp 73) 30, type := 4, pos := "law.go:103", after := #[{ on := 2, ground := Ground.data }, { on := 5, ground := Ground.data }], guard := none }) (v := .bool false) rfl (by kernel_rfl) (by kernel_rfl) (by kernel_rfl) (fun _ _ _ h => h) (Or.inl ⟨by rfl, fun W => ?y30⟩) ?_
          case y30 => go_simp
          try dsimp only [Act.put]
          try simp only [List.setIfInBounds_toArray, List.set_cons_zero, List.set_cons_succ]
          refine wpAny_done (by kernel_rfl) ?_ _
          try dsimp only [Act.put]
          try simp only [List.setIfInBounds_toArray, List.set_cons_zero, List.set_cons_succ]
          have KE := k26
          go_wp2_with fail
          go_meet
          exact ⟨rfl, KE⟩
      · rw [if_pos (by rfl)]
        refine wp_make_full (.tmp 71) (.tmp 71) 24 rfl w.heap.size 87 HI87.out.1 ZL 2 (by kernel_rfl) HI87.out.2.1 HI87.out.2.2.1 .i64 .i64 n rfl rfl (by rw [HI87.out.2.2.2]; omega) (by unfold maxLen; omega) k0.out.size ?_
        intro w33 ho hg
        have hbt := below_none hg
        have k31 := Lib.hid (k0.out.trans (hbt.mono k0.out.size))
        have o32 := Lib.hid (show LsAt w33 w33.heap.size (some ⟨Wd.heap.size, 0, none⟩) (List.replicate n eL) n from ⟨by have := Rd.of_own ho; rw [zeros_LC] at this; exact this, by simp, (fun h => by cases h), okZ n HNZ.out⟩)
        clear ho hg hbt
        (try (refine hK _ _ ?_; clear hK K))
        try dsimp only [Act.put]
        try simp only [List.setIfInBounds_toArray, List.set_cons_zero, List.set_cons_succ]
        refine wpAny_ready (rs := [1]) (by kernel_rfl) (by simp) ?_
        refine AllReady.cons (o := { dst := some 69, op := Op.makeSlice 33 (Operand.tmp 68) (Operand.tmp 68), type := 33, pos := "law.go:103", after := #[{ on := 0, ground := Ground.data }, { on := 0, ground := Ground.data }], guard := none }) rfl (fun K hK => ?_) AllReady.nil
        rw [if_pos (by rfl)]
        refine wp_make_full (.tmp 68) (.tmp 68) 33 rfl w.heap.size 41 HI41.out.1 ZL 2 (by kernel_rfl) HI41.out.2.1 HI41.out.2.2.1 .i64 .i64 n rfl rfl (by rw [HI41.out.2.2.2]; omega) (by unfold maxLen; omega) k31.out.size ?_
        intro w36 ho hg
        have hbt := below_none hg
        have k34 := Lib.hid (k31.out.trans (hbt.mono k31.out.size))
        have o35 := Lib.hid (show LsAt w36 w36.heap.size (some ⟨w33.heap.size, 0, none⟩) (List.replicate n eL) n from ⟨by have := Rd.of_own ho; rw [zeros_LC] at this; exact this, by simp, (fun h => by cases h), okZ n HNZ.out⟩)
        have o37 := Lib.hid ((o32.out.below hbt).more hbt.size)
        clear ho hg hbt
        (try (refine hK _ _ ?_; clear hK K))
        try dsimp only [Act.put]
        try simp only [List.setIfInBounds_toArray, List.set_cons_zero, List.set_cons_succ]
        refine wpAny_ready (rs := [2]) (by kernel_rfl) (by simp) ?_
        refine AllReady.cons (o := { dst := some 70, op := Op.call { callee := Callee.value (Operand.func 15), args := #[Operand.tmp 69], argTypes := #[33] }, type := 30, pos := "law.go:103", after := #[{ on := 1, ground := Ground.data }], guard := none }) rfl (fun K hK => ?_) AllReady.nil
        rw [if_pos (by rfl)]
        have HC := valid_any _ (List.replicate n eL) n w36 o35.out.ok o35.out.rd
        rw [HVZ.out, List.length_replicate] at HC
        go_simp
        refine HC.mono ?_; rintro e w39 ⟨rfl, hbt⟩
        have k38 := Lib.hid (k34.out.trans (hbt.mono k34.out.size))
        have o40 := Lib.hid ((o35.out.below hbt).more hbt.size)
        have o41 := Lib.hid ((o37.out.below hbt).more hbt.size)
        clear hbt HC
        go_wp2_with fail
        (try (refine hK _ _ ?_; clear hK K))
        try dsimp only [Act.put]
        try simp only [List.setIfInBounds_toArray, List.set_cons_zero, List.set_cons_succ]
        refine wpAny_ready (rs := [5]) (by kernel_rfl) (by simp) ?_
        refine AllReady.cons (o := { dst := some 73, op := Op.call { callee := Callee.value (Operand.func 16), args := #[Operand.tmp 72], argTypes := #[24] }, type := 30, pos := "law.go:103", after := #[{ on := 4, ground := Ground.data }, { on := 2, ground := Ground.chain }], guard := none }) rfl (fun K hK => ?_) AllReady.nil
        rw [if_pos (by rfl)]
        have HC := rvalid_any _ (List.replicate n eL) n w39 o41.out.ok o41.out.rd
        rw [HVZ.out, List.length_replicate] at HC
        go_simp
        refine HC.mono ?_; rintro e w43 ⟨rfl, hbt⟩
        have k42 := Lib.hid (k38.out.trans (hbt.mono k38.out.size))
        have o44 := Lib.hid ((o40.out.below hbt).more hbt.size)
        have o45 := Lib.hid ((o41.out.below hbt).more hbt.size)
        clear hbt HC
        go_wp2_with fail
        (try (refine hK _ _ ?_; clear hK K))
        try dsimp only [Act.put]
        try simp only [List.setIfInBounds_toArray, List.set_cons_zero, List.set_cons_succ]
        refine wpAny_take (i := 6) (oi := { dst := some 74, op := Op.binOp BinOp.neq 30 (Operand.tmp 70) (Operand.tmp 73) 30, type := 4, pos := "law.go:103", after := #[{ on := 2, ground := Ground.data }, { on := 5, ground := Ground.data }], guard := none }) (v := .bool false) rfl (by kernel_rfl) (by kernel_rfl) (by kernel_rfl) (fun _ _ _ h => h) (Or.inl ⟨by rfl, fun W => ?y46⟩) ?_
        case y46 => go_simp
        try dsimp only [Act.put]
        try simp only [List.setIfInBounds_toArray, List.set_cons_zero, List.set_cons_succ]
        refine wpAny_done (by kernel_rfl) ?_ _
        try dsimp only [Act.put]
        try simp only [List.setIfInBounds_toArray, List.set_cons_zero, List.set_cons_succ]
        have KE := k42
        go_wp2_with fail
        go_meet
        exact ⟨rfl, KE⟩
    case rest =>
      obtain ⟨rfl, KE⟩ := hcut
      obtain ⟨w8, hw8⟩ : ∃ w8, w8 = wc := ⟨_, rfl⟩
      rw [← hw8] at KE ⊢
      clear hw8
      obtain ⟨m, hm⟩ : ∃ m, m = 65530 + q := ⟨_, rfl⟩
      have hmI : (65530 : Int) + (q : Int) = (m : Int) := by omega
      obtain ⟨T, hT⟩ : ∃ T : List UInt8, T = List.replicate m 0 := ⟨_, rfl⟩
      have HTl := Lib.hid (show m = T.length by rw [hT]; simp)
      have HB8 := Lib.hid (show (madeCells (Value.int .u8 0).cells (m * 1)).toList = B8 T by rw [Nat.mul_one, hT]; exact (toList_madeCells_one _ _).trans (by simp [B8]))
      obtain ⟨i5, hi5⟩ := info_parts Tryd.info5
      have HI5 := Lib.hid hi5
      obtain ⟨LW, hLW⟩ : ∃ L : List Lf, L = [(⟨#[97]⟩, bs T), (⟨#[98]⟩, ⟨#[]⟩)] := ⟨_, rfl⟩
      have HLW := Lib.hid hLW
      have hL2 : LW.length = 2 := by rw [hLW]; rfl
      have okW : okL LW := ⟨by omega, fun x hx => by
        rw [hLW] at hx
        simp only [List.mem_cons, List.not_mem_nil, or_false] at hx
        rcases hx with rfl | rfl
        · exact ⟨by show (ByteArray.mk #[97]).size ≤ _; decide, by show (bs T).size ≤ _; rw [bs_size, ← HTl.out]; omega⟩
        · exact ⟨by decide, by decide⟩⟩
      obtain ⟨VW, hVW⟩ : ∃ V, V = validE LW := ⟨_, rfl⟩
      have HVA := Lib.hid (fun (W : World) (A : Option Addr) (c : Nat) (h : LsAt W W.heap.size A LW c) => show Calls Tryd.prog 15 #[.slice A 2 c] W fun e w' => e = .returned (.int .i64 VW) ∧ Below W.heap.size W w' from by
        have := valid_any A LW c W okW h.rd; rw [hL2, ← hVW] at this; exact this)
      have HRA := Lib.hid (fun (W : World) (A : Option Addr) (c : Nat) (h : LsAt W W.heap.size A LW c) => show Calls Tryd.prog 16 #[.slice A 2 c] W fun e w' => e = .returned (.int .i64 VW) ∧ Below W.heap.size W w' from by
        have := rvalid_any A LW c W okW h.rd; rw [hL2, ← hVW] at this; exact this)
      have HPL := Lib.hid (fun (W : World) (A : Option Addr) (c : Nat) (h : LsAt W W.heap.size A LW c) => show Calls Tryd.prog 18 #[.slice A 2 c] W fun e w' => ∃ A' c', e = .returned (.slice A' 2 c') ∧ LsAt w' w'.heap.size A' LW c' ∧ Below W.heap.size W w' from by
        have := plain_any A LW c W (by omega) h.rd
        rw [hL2] at this
        refine this.mono ?_
        rintro e w' ⟨A', c', rfl, h1, h2, h3, h4⟩
        exact ⟨A', c', rfl, ⟨h3, by rw [hL2]; exact h1, h2, okW⟩, h4⟩)
      have HOW := Lib.hid (show ∀ W : World, LsAt (W.alloc (.cells #[.string ⟨#[97]⟩, .string (bs T), .string ⟨#[98]⟩, .string ⟨#[]⟩] 41)) (W.alloc (.cells #[.string ⟨#[97]⟩, .string (bs T), .string ⟨#[98]⟩, .string ⟨#[]⟩] 41)).heap.size (some ⟨W.heap.size, 0, none⟩) LW 2 from fun W => ⟨by rw [hLW]; exact rd_new W (LC [(⟨#[97]⟩, bs T), (⟨#[98]⟩, ⟨#[]⟩)]) 41, by omega, (fun h => by cases h), okW⟩)
      have b33 := fun W => build33 W (bs T)
      have hm1 : 0 < m ∧ m ≤ 65541 := by omega
      clear hT hi5 hLW hL2 okW hVW hm hnI HNZ HVZ HI41 HI87 K7
      go_upto_region 13 with (first
        | (go_at_call 17; refine (HAR.out _).mono ?_; rintro e wx ⟨rfl, rfl⟩)
        | (at_make; refine wpList_make_full _ rfl (.tmp 77) (.tmp 77) 39 rfl w.heap.size 5 i5 (.int .u8 0) 1 (by kernel_rfl) HI5.out.1 HI5.out.2.1 HI5.out.2.2.1 .i64 .i64 (m : Int) (m : Int) m rfl rfl rfl rfl (by rw [HI5.out.2.2.2]; omega) (by unfold maxLen; omega) KE.out.size ?_; intro w9 ho hg; have hb9 := below_none hg; have K9 := Lib.hid (KE.out.trans (hb9.mono KE.out.size)); rw [HB8.out] at ho; have hcv := conv_rd _ T m _ w9 (Rd.of_own ho) m HTl.out hm1.1; clear ho hg hb9))
      obtain ⟨w10, hw10⟩ : ∃ W, W = w9.alloc (.cells #[.string ⟨#[97]⟩, .string (bs T), .string ⟨#[98]⟩, .string ⟨#[]⟩] 41) := ⟨_, rfl⟩
      have O10 := Lib.hid (show LsAt w10 w10.heap.size (some ⟨w9.heap.size, 0, none⟩) LW 2 by rw [hw10]; exact HOW.out w9)
      have K10 := Lib.hid (show Below w.heap.size w w10 by rw [hw10]; exact K9.out.alloc K9.out.size _)
      rw [← hw10]
      clear hw10 hcv b33
      go_wp2_with (first
        | (go_at_call 15; refine (HVA.out _ _ _ O10.out).mono ?_; rintro e w11 ⟨rfl, hb⟩; have K11 := Lib.hid (K10.out.trans (hb.mono K10.out.size)); have O11 := Lib.hid ((O10.out.below hb).more hb.size); clear hb)
        | (go_at_call 18; refine (HPL.out _ _ _ O11.out).mono ?_; rintro e w12 ⟨A12, c12, rfl, ho12, hb⟩; have K12 := Lib.hid (K11.out.trans (hb.mono K11.out.size)); have O12 := Lib.hid ho12; clear hb ho12)
        | (go_at_call 16; refine (HRA.out _ _ _ O12.out).mono ?_; rintro e w13 ⟨rfl, hb⟩; have K13 := Lib.hid (K12.out.trans (hb.mono K12.out.size)); clear hb)
        | (go_at_call 19; refine (lives_any _ (HT.out.below K13.out HT.out.1)).mono ?_; rintro e w14 ⟨rfl, hb⟩; have K14 := Lib.hid (K13.out.trans (hb.mono K13.out.size)); clear hb))
      go_ret
      exact ⟨rfl, K14.out⟩
end Go.Proofs.YtofccgkgjcnfbaaDoor
