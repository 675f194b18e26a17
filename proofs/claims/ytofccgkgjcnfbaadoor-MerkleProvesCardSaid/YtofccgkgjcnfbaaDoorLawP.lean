/-
  The walk of the law MerkleProves.
  Conditions: strings of at most 2^63 - 1 bytes; the tables of the round constants are as the text lays them.
-/
import Derived.Test.YtofccgkgjcnfbaaDoorLawR
import Derived.Test.YtofccgkgjcnfbaaDoorModel
namespace Go.Proofs.YtofccgkgjcnfbaaDoor
open Go.RowKit Wr Sh
set_option linter.unusedVariables false
set_option maxRecDepth 100000

theorem s2_below {gl i gk j : Nat} {u v : Value} {W W' : World} (h : W.cell? ⟨gl, i, none⟩ = some u ∧ W.cell? ⟨gk, j, none⟩ = some v) (hb : Below W.heap.size W W') : W'.cell? ⟨gl, i, none⟩ = some u ∧ W'.cell? ⟨gk, j, none⟩ = some v :=
  ⟨(hb.cell (p := ⟨gl, i, none⟩) (World.block_lt_of_cell? _ _ h.1)).trans h.1, (hb.cell (p := ⟨gk, j, none⟩) (World.block_lt_of_cell? _ _ h.2)).trans h.2⟩
theorem s2_row {gl i gk j b : Nat} {u v : Value} {W : World} {c : Array Value} (h : W.cell? ⟨gl, i, none⟩ = some u ∧ W.cell? ⟨gk, j, none⟩ = some v) (h1 : gl ≠ b) (h2 : gk ≠ b) : (W.setRow b c).cell? ⟨gl, i, none⟩ = some u ∧ (W.setRow b c).cell? ⟨gk, j, none⟩ = some v :=
  ⟨(World.cell?_of_block (a := ⟨gl, i, none⟩) (heap_setRow_other _ _ _ _ h1)).trans h.1, (World.cell?_of_block (a := ⟨gk, j, none⟩) (heap_setRow_other _ _ _ _ h2)).trans h.2⟩
theorem s4_below {a b c d : Nat} {t1 t2 t3 t4 : TypeId} {x1 x2 x3 x4 : List Value} {W W' : World} (h : Blk W a t1 x1 ∧ Blk W b t2 x2 ∧ Blk W c t3 x3 ∧ Blk W d t4 x4) (hb : Below W.heap.size W W') : Blk W' a t1 x1 ∧ Blk W' b t2 x2 ∧ Blk W' c t3 x3 ∧ Blk W' d t4 x4 :=
  ⟨h.1.below hb h.1.lt, h.2.1.below hb h.2.1.lt, h.2.2.1.below hb h.2.2.1.lt, h.2.2.2.below hb h.2.2.2.lt⟩
/-- A proof in its box, of either type. -/
structure BxT (W : World) (g : Nat) (t : TypeId) (p : Pf) (A1 A2 : Option Addr) (n m c1 c2 : Nat) : Prop where
  blk : Blk W g t (PR p.first p.size (.slice A1 n c1) (.slice A2 m c2))
  at_ : PfAt W W.heap.size p A1 A2 c1 c2
theorem BxT.below {W W' : World} {g : Nat} {t : TypeId} {p : Pf} {A1 A2 : Option Addr} {n m c1 c2 : Nat} (h : BxT W g t p A1 A2 n m c1 c2) (hb : Below W.heap.size W W') : BxT W' g t p A1 A2 n m c1 c2 :=
  ⟨h.blk.below hb h.blk.lt, (h.at_.r1.below hb).more hb.size, (h.at_.r2.below hb).more hb.size, h.at_.k1, h.at_.k2, h.at_.okl, h.at_.oks, h.at_.oki⟩
theorem form_of {b : Nat} {W : World} {p : Pf} {v : Value} (h : ProofV b W p v) : ∃ A1 c1 A2 c2, v = .agg (PR p.first p.size (.slice A1 p.leaves.length c1) (.slice A2 p.sides.length c2)).toArray := by
  obtain ⟨A1, c1, A2, c2, e, _⟩ := h; exact ⟨A1, c1, A2, c2, e⟩
theorem pfAt_at {b : Nat} {W : World} {p : Pf} {A1 A2 : Option Addr} {n m c1 c2 : Nat} (h : ProofV b W p (.agg (PR p.first p.size (.slice A1 n c1) (.slice A2 m c2)).toArray)) (hf : Few p) : PfAt W W.heap.size p A1 A2 c1 c2 := by
  obtain ⟨B1, d1, B2, d2, e, h1, h2, h3, h4, _, h7⟩ := h
  simp only [PR, Value.agg.injEq, List.cons.injEq, Value.slice.injEq, and_true, true_and, Array.mk.injEq] at e
  obtain ⟨⟨rfl, rfl, rfl⟩, rfl, rfl, rfl⟩ := e
  exact ⟨h3, h4, h1, h2, hf.ok, ⟨by have := hf.sides; omega, h7⟩, hf.ints⟩
theorem few_prove_all (L : List Lf) (k : ByteArray) (hN : L.length ≤ 11) (hk : okL L) : Few (proveR node lf top L k).1 := by
  by_cases hv : validE L = 0
  · exact few_prove L k hN hk hv
  · unfold proveR; rw [if_neg hv]; exact few_noPf
theorem few_range_all (L : List Lf) (k t : ByteArray) (hN : L.length ≤ 11) (hk : okL L) : Few (rangeR node lf top L k t).1 := by
  by_cases hv : validE L = 0
  · exact few_range L k t hN hk hv
  · unfold rangeR; rw [if_neg hv]; exact few_noPf
set_option maxHeartbeats 16000000 in
theorem proves_walk (A : Option Addr) (l : List Int) (c : Nat) (A' : Option Addr) (raw : List Lf) (c' : Nat) (kn mn : Int) (nm : ByteArray) (w : World) (hl : l.length ≤ 281474976710656) (hr : Rd w w.heap.size A (I64 l)) (ho : ∀ x ∈ l, okInt x)
    (hl2 : raw.length ≤ 281474976710656) (hr2 : Rd w w.heap.size A' (LC raw)) (hs2 : ∀ x ∈ raw, x.1.size ≤ 9223372036854775807 ∧ x.2.size ≤ 9223372036854775807) (hkn : okInt kn) (hmn : okInt mn) (hnm : nm.size ≤ 9223372036854775807) (ht0 : Tab 0 w) (ht : Tab 1 w) :
    Calls Tryd.prog 4 #[.slice A l.length c, .slice A' raw.length c', .int .i64 kn, .int .i64 mn, .string nm] w fun e w' => e = .returned (.bool true) ∧ Below w.heap.size w w' := by
  have HT := Lib.hid ht
  have HT0 := Lib.hid ht0
  have hZ := hZP
  have Hkn := Lib.hid hkn
  have Hmn := Lib.hid hmn
  have HSN := Lib.hid (fun (W : World) => show Calls Tryd.prog 21 #[.string nm, .int .i64 30] W fun e w' => ∃ t : ByteArray, e = .returned (.string t) ∧ t.size ≤ 30 ∧ W = w' from short_any nm 30 W hnm (by decide))
  clear hkn hmn hnm
  have HC0 := Lib.hid (leaves_any A l c w hl hr ho)
  have HR0 := Lib.hid (fun (W : World) (hb : Below w.heap.size w W) => raws_any A' raw c' W hl2 ((hr2.below hb).more hb.size) hs2)
  clear ht ht0 hl hr ho hl2 hr2 hs2
  generalize l.length = N at HC0 ⊢
  generalize raw.length = N2 at HR0 ⊢
  go_enter Tryd.func4, Tryd.ntmps4
  go_wp2_with (go_at_call 10; refine HC0.out.mono ?_; rintro e w1 ⟨A1, c1, rfl, hcap, hnil, hrd, hb1⟩)
  have Bs1 := Lib.hid hb1
  have L1 := Lib.hid (show LsAt w1 w1.heap.size A1 (genL l) c1 from ⟨hrd, hcap, hnil, genL_ok l⟩)
  clear hb1 hcap hnil hrd HC0
  refine (HR0.out w1 Bs1.out).mono ?_; rintro e w2 ⟨R0, A2, c2, h8, hz, rfl, hcap, hnil, hrd, hb⟩
  have Bs2 := Lib.hid (Bs1.out.trans (hb.mono Bs1.out.size))
  have okR : okL R0 := ⟨by omega, fun x hx => ⟨by have := (hz x hx).1; omega, by have := (hz x hx).2; omega⟩⟩
  have U1 := Lib.hid (show HasL w2 w2.heap.size (.slice A1 (genL l).length c1) from ⟨A1, genL l, c1, rfl, (L1.out.below hb).more hb.size, genL_len l⟩)
  have U2 := Lib.hid (show HasL w2 w2.heap.size (.slice A2 R0.length c2) from ⟨A2, R0, c2, rfl, ⟨hrd, hcap, hnil, okR⟩, by omega⟩)
  have U3 := Lib.hid (show HasL w2 w2.heap.size (.slice none 0 0) from ⟨none, [], 0, rfl, ⟨Rd.nil, Nat.le_refl _, fun _ => rfl, ⟨by decide, fun x h => by cases h⟩⟩, by decide⟩)
  generalize (genL l).length = n1 at U1 ⊢
  clear okR hcap hz h8
  generalize R0.length = n2 at U2 ⊢
  obtain ⟨W3, hW3⟩ : ∃ W, W = w2.alloc (.cells #[.slice A1 n1 c1, .slice A2 n2 c2, .slice none 0 0] 24) := ⟨_, rfl⟩
  have hb3 : Below w2.heap.size w2 W3 := by rw [hW3]; exact (Below.refl _ _).alloc (Nat.le_refl _) _
  have Bs3 := Lib.hid (Bs2.out.trans (hb3.mono Bs2.out.size))
  have KL := Lib.hid (show Blk W3 w2.heap.size 24 [.slice A1 n1 c1, .slice A2 n2 c2, .slice none 0 0] by rw [hW3]; exact Blk.new w2 24 [.slice A1 n1 c1, .slice A2 n2 c2, .slice none 0 0])
  have HU := Lib.hid (fun i hi => lists_at ((U1.out.below hb3).more hb3.size) ((U2.out.below hb3).more hb3.size) ((U3.out.below hb3).more hb3.size) i hi)
  have HW3 := Lib.hid hW3
  clear hb hnil hrd L1 U1 U2 U3 hW3 hb3 HR0
  obtain ⟨gl, hgl⟩ : ∃ g, g = w2.heap.size := ⟨_, rfl⟩
  go_wp2_with fail
  rw [← hgl] at KL ⊢
  have HGL := Lib.hid hgl
  clear hgl
  go_loopw [12] (fun s12 wr => ∃ i : Nat, i ≤ 3 ∧ s12 = .int .i64 i ∧ Hid (Below W3.heap.size W3 wr)) (fun s12 _ => 3 - (intOf s12).toNat)
  case atStart => exact ⟨0, by omega, rfl, Lib.hid (by rw [HW3.out]; exact Below.refl _ _)⟩
  case round =>
  obtain ⟨i, hi3, rfl, HB⟩ := hrel
  clear HW3
  by_cases hlt : i < 3
  · obtain ⟨U, hU, A3, L, c3, rfl, hLS, hL11⟩ := HU.out i hlt
    have LS := Lib.hid hLS
    have hcell : W3.cell? ⟨gl, i, none⟩ = some (.slice A3 L.length c3) := (KL.out.cell i).trans hU
    have HCE0 := Lib.hid hcell
    have hltI : (i : Int) < 3 := by omega
    obtain ⟨NL, hNL⟩ : ∃ n, n = L.length := ⟨_, rfl⟩
    have HNL := Lib.hid hNL
    have HL11 := Lib.hid hL11
    rw [← hNL] at HCE0
    have hglt : gl < W3.heap.size := KL.out.lt
    have HKY := Lib.hid (fun (n : Int) (hn : okInt n) (W : World) (hb : Below W3.heap.size W3 W) => show Calls Tryd.prog 20 #[.slice A3 NL c3, .int .i64 n] W fun e w' => ∃ K, e = .returned (.string K) ∧ Below W.heap.size W w' from by
      rw [hNL]; exact lawKey_any A3 L c3 n W hL11 ((hLS.below hb).more hb.size).rd hn (fun x hx => (hLS.ok.2 x hx).1))
    have hc1 : wr.cell? ⟨gl, i, none⟩ = some (.slice A3 NL c3) := (HB.out.cell (p := ⟨gl, i, none⟩) hglt).trans HCE0.out
    clear hcell hU hLS hNL hL11
    go_upto_region 6 with (go_at_call 20; refine (HKY.out kn Hkn.out _ HB.out).mono ?_; rintro e w4 ⟨F, rfl, hb⟩; have B4 := Lib.hid (HB.out.trans (hb.mono HB.out.size)); clear hb hc1)
    have hc2 : w4.cell? ⟨gl, i, none⟩ = some (.slice A3 NL c3) := (B4.out.cell (p := ⟨gl, i, none⟩) hglt).trans HCE0.out
    go_upto_region 7 with (go_at_call 20; refine (HKY.out mn Hmn.out _ B4.out).mono ?_; rintro e w5 ⟨T, rfl, hb⟩; have B5 := Lib.hid (B4.out.trans (hb.mono B4.out.size)); clear hb hc2)
    go_wp2_with fail
    refine (HSN.out _).mono ?_; rintro e wx ⟨G, rfl, _, rfl⟩
    go_wp2_with fail
    obtain ⟨W7, hW7⟩ : ∃ W, W = w5.alloc (.cells #[.string F, .string T, .string G] 9) := ⟨_, rfl⟩
    have hb7 : Below w5.heap.size w5 W7 := by rw [hW7]; exact (Below.refl _ _).alloc (Nat.le_refl _) _
    have B7 := Lib.hid (B5.out.trans (hb7.mono B5.out.size))
    have KK := Lib.hid (show Blk W7 w5.heap.size 9 [.string F, .string T, .string G] by rw [hW7]; exact Blk.new w5 9 [.string F, .string T, .string G])
    have HCE := Lib.hid ((B7.out.cell (p := ⟨gl, i, none⟩) hglt).trans HCE0.out)
    have HGLT := Lib.hid (Nat.lt_of_lt_of_le hglt B7.out.size)
    have HGKT := Lib.hid KK.out.lt
    have HW7 := Lib.hid hW7
    obtain ⟨gk, hgk⟩ : ∃ g, g = w5.heap.size := ⟨_, rfl⟩
    rw [← hgk] at KK HGKT ⊢
    have Bw7 := Lib.hid (Bs3.out.trans (B7.out.mono Bs3.out.size))
    have LS7 := Lib.hid ((LS.out.below B7.out).more B7.out.size)
    clear hgk hW7 hb7 HKY B4 B5 HCE0 LS hglt
    go_loopw [16] (fun s16 wr => ∃ j : Nat, j ≤ 3 ∧ s16 = .int .i64 j ∧ Hid (Below W7.heap.size W7 wr)) (fun s16 _ => 3 - (intOf s16).toNat)
    case atStart => exact ⟨0, by omega, rfl, Lib.hid (by rw [HW7.out]; exact Below.refl _ _)⟩
    case round =>
    obtain ⟨j, hj3, rfl, HB7⟩ := hrel
    clear HW7
    by_cases hjl : j < 3
    · obtain ⟨KJ, hKJ⟩ : ∃ K, [Value.string F, .string T, .string G][j]? = some (.string K) := by
        have : j = 0 ∨ j = 1 ∨ j = 2 := by omega
        rcases this with rfl | rfl | rfl
        · exact ⟨F, rfl⟩
        · exact ⟨T, rfl⟩
        · exact ⟨G, rfl⟩
      have HKE := Lib.hid ((KK.out.cell j).trans hKJ)
      have hjI : (j : Int) < 3 := by omega
      obtain ⟨V, hV⟩ : ∃ V, V = validE L := ⟨_, rfl⟩
      obtain ⟨pq, hpq⟩ : ∃ p, p = (proveR node lf top L KJ).1 := ⟨_, rfl⟩
      obtain ⟨pr, hpr⟩ : ∃ p, p = (rangeR node lf top L F KJ).1 := ⟨_, rfl⟩
      obtain ⟨VR, hVR⟩ : ∃ V, V = (rangeR node lf top L F KJ).2 := ⟨_, rfl⟩
      have HFq := Lib.hid (show Few pq by rw [hpq]; exact few_prove_all L KJ HL11.out LS7.out.ok)
      have HFr := Lib.hid (show Few pr by rw [hpr]; exact few_range_all L F KJ HL11.out LS7.out.ok)
      obtain ⟨nq, hnq⟩ : ∃ n, n = pq.leaves.length := ⟨_, rfl⟩
      obtain ⟨mq, hmq⟩ : ∃ n, n = pq.sides.length := ⟨_, rfl⟩
      obtain ⟨nr, hnr⟩ : ∃ n, n = pr.leaves.length := ⟨_, rfl⟩
      obtain ⟨mr, hmr⟩ : ∃ n, n = pr.sides.length := ⟨_, rfl⟩
      have HLnq := Lib.hid hnq
      have HLmq := Lib.hid hmq
      have HLnr := Lib.hid hnr
      have HLmr := Lib.hid hmr
      have HOWN := Lib.hid (fun (W : World) (hb : Below W7.heap.size W7 W) => show Calls Tryd.prog 13 #[.slice A3 NL c3] W fun e w' => ∃ A' c', e = .returned (.slice A' NL c') ∧ LsAt w' w'.heap.size A' L c' ∧ Below W.heap.size W w' from by
        have := own_any A3 L c3 W LS7.out.ok.1 ((LS7.out.below hb).more hb.size).rd
        rw [← HNL.out] at this
        refine this.mono ?_
        rintro e w' ⟨A', c', rfl, h1, h2, h3, h4⟩
        exact ⟨A', c', rfl, ⟨h3, by rw [← HNL.out]; exact h1, h2, LS7.out.ok⟩, h4⟩)
      have HC11 := Lib.hid (fun (W : World) (A' : Option Addr) (c' : Nat) (hb : Below W7.heap.size W7 W) (hls : LsAt W W.heap.size A' L c') => show Calls Tryd.prog 22 #[.slice A' NL c', .string KJ] W fun e w' => ∃ A1 c1 A2 c2, e = .returned (.tuple #[.agg (PR pq.first pq.size (.slice A1 nq c1) (.slice A2 mq c2)).toArray, .int .i64 V]) ∧ ProofV W.heap.size w' pq (.agg (PR pq.first pq.size (.slice A1 nq c1) (.slice A2 mq c2)).toArray) ∧ Below W.heap.size W w' from by
        have := prove_any A' L c' KJ W hls (HT.out.below (Bw7.out.trans (hb.mono Bw7.out.size)) HT.out.1)
        rw [← HNL.out, ← hV, ← hpq] at this
        refine this.mono ?_
        rintro e w' ⟨v, rfl, h1, h2⟩
        obtain ⟨A1, c1, A2, c2, rfl⟩ := form_of h1
        rw [hnq, hmq]
        exact ⟨A1, c1, A2, c2, rfl, h1, h2⟩)
      have HC12 := Lib.hid (fun (W : World) (hb : Below W7.heap.size W7 W) => show Calls Tryd.prog 23 #[.slice A3 NL c3, .string KJ] W fun e w' => ∃ A1 c1 A2 c2, e = .returned (.tuple #[.agg (PR pq.first pq.size (.slice A1 nq c1) (.slice A2 mq c2)).toArray, .int .i64 V]) ∧ ProofV W.heap.size w' pq (.agg (PR pq.first pq.size (.slice A1 nq c1) (.slice A2 mq c2)).toArray) ∧ Below W.heap.size W w' from by
        have := rprove_any A3 L c3 KJ W ((LS7.out.below hb).more hb.size) (by have := HL11.out; omega) (HT0.out.below (Bw7.out.trans (hb.mono Bw7.out.size)) HT0.out.1)
        rw [← HNL.out, ← hV, ← hpq] at this
        refine this.mono ?_
        rintro e w' ⟨v, rfl, h1, h2⟩
        obtain ⟨A1, c1, A2, c2, rfl⟩ := form_of h1
        rw [hnq, hmq]
        exact ⟨A1, c1, A2, c2, rfl, h1, h2⟩)
      have HC13 := Lib.hid (fun (W : World) (A' : Option Addr) (c' : Nat) (hb : Below W7.heap.size W7 W) (hls : LsAt W W.heap.size A' L c') => show Calls Tryd.prog 24 #[.slice A' NL c', .string F, .string KJ] W fun e w' => ∃ A1 c1 A2 c2, e = .returned (.tuple #[.agg (PR pr.first pr.size (.slice A1 nr c1) (.slice A2 mr c2)).toArray, .int .i64 VR]) ∧ ProofV W.heap.size w' pr (.agg (PR pr.first pr.size (.slice A1 nr c1) (.slice A2 mr c2)).toArray) ∧ Below W.heap.size W w' from by
        have := range_any A' L c' F KJ W hls (HT.out.below (Bw7.out.trans (hb.mono Bw7.out.size)) HT.out.1)
        rw [← HNL.out, ← hVR, ← hpr] at this
        refine this.mono ?_
        rintro e w' ⟨v, rfl, h1, h2⟩
        obtain ⟨A1, c1, A2, c2, rfl⟩ := form_of h1
        rw [hnr, hmr]
        exact ⟨A1, c1, A2, c2, rfl, h1, h2⟩)
      have HC14 := Lib.hid (fun (W : World) (hb : Below W7.heap.size W7 W) => show Calls Tryd.prog 25 #[.slice A3 NL c3, .string F, .string KJ] W fun e w' => ∃ A1 c1 A2 c2, e = .returned (.tuple #[.agg (PR pr.first pr.size (.slice A1 nr c1) (.slice A2 mr c2)).toArray, .int .i64 VR]) ∧ ProofV W.heap.size w' pr (.agg (PR pr.first pr.size (.slice A1 nr c1) (.slice A2 mr c2)).toArray) ∧ Below W.heap.size W w' from by
        have := rrange_any A3 L c3 F KJ W ((LS7.out.below hb).more hb.size) (by have := HL11.out; omega) (HT0.out.below (Bw7.out.trans (hb.mono Bw7.out.size)) HT0.out.1)
        rw [← HNL.out, ← hVR, ← hpr] at this
        refine this.mono ?_
        rintro e w' ⟨v, rfl, h1, h2⟩
        obtain ⟨A1, c1, A2, c2, rfl⟩ := form_of h1
        rw [hnr, hmr]
        exact ⟨A1, c1, A2, c2, rfl, h1, h2⟩)
      clear hKJ hV hpq hpr hVR hnq hmq hnr hmr
      go_upto_region 11 with fail
      obtain ⟨Ws, hWs⟩ : ∃ W, W = wr := ⟨_, rfl⟩
      have KS := HB7
      have HS := Lib.hid (show Ws.cell? ⟨gl, i, none⟩ = some (.slice A3 NL c3) ∧ Ws.cell? ⟨gk, j, none⟩ = some (.string KJ) from by rw [hWs]; exact ⟨(HB7.out.cell (p := ⟨gl, i, none⟩) HGLT.out).trans HCE.out, (HB7.out.cell (p := ⟨gk, j, none⟩) HGKT.out).trans HKE.out⟩)
      rw [← hWs] at KS ⊢
      have HSZ := Lib.hid KS.out.size
      have hgl7 : gl < Ws.heap.size := Nat.lt_of_lt_of_le HGLT.out KS.out.size
      have hgk7 : gk < Ws.heap.size := Nat.lt_of_lt_of_le HGKT.out KS.out.size
      go_cut [17, 18] from 53 to 130 (fun sb se wx => ∃ gb A1 A2 c1 c2, sb = .pointer (some ⟨gb, 0, none⟩) ∧ se = .int .i64 V ∧ Hid (BxT wx gb 50 pq A1 A2 nq mq c1 c2 ∧ Below Ws.heap.size Ws wx))
      case first =>
        refine wp_region_held (S := fun W => W.cell? ⟨gl, i, none⟩ = some (.slice A3 NL c3) ∧ W.cell? ⟨gk, j, none⟩ = some (.string KJ)) (by kernel_rfl) ?_
        change wpAnyH _ _ _ _ _ _ _ _ (World.drew Ws)
        have k0 := Lib.hid (Below.refl Ws.heap.size Ws).drew
        have hs0 : (World.drew Ws).cell? ⟨gl, i, none⟩ = some (.slice A3 NL c3) ∧ (World.drew Ws).cell? ⟨gk, j, none⟩ = some (.string KJ) := HS.out
        generalize World.drew Ws = Wd at k0 hs0 ⊢
        refine wpAnyH_take (i := 0) (oi := { dst := some 58, op := Op.move (Operand.tmp 11), type := 27, pos := "law.go:118", after := #[], guard := none }) (v := .slice (some ⟨gl, 0, none⟩) 3 3) rfl (by kernel_rfl) (by kernel_rfl) (by kernel_rfl) (fun _ _ _ h => h) (Or.inl ⟨by rfl, fun W hW => ?y1⟩) hs0 ?_
        case y1 => go_simp
        try dsimp only [Act.put]
        try simp only [List.setIfInBounds_toArray, List.set_cons_zero, List.set_cons_succ]
        refine wpAnyH_take (i := 1) (oi := { dst := some 59, op := Op.move (Operand.tmp 12), type := 3, pos := "law.go:118", after := #[], guard := none }) (v := .int .i64 (i : Int)) rfl (by kernel_rfl) (by kernel_rfl) (by kernel_rfl) (fun _ _ _ h => h) (Or.inl ⟨by rfl, fun W hW => ?y2⟩) hs0 ?_
        case y2 => go_simp
        try dsimp only [Act.put]
        try simp only [List.setIfInBounds_toArray, List.set_cons_zero, List.set_cons_succ]
        refine wpAnyH_take (i := 2) (oi := { dst := some 60, op := Op.indexAddr 27 (Operand.tmp 58) (Operand.tmp 59), type := 0, pos := "law.go:118", after := #[{ on := 0, ground := Ground.data }, { on := 1, ground := Ground.data }], guard := none }) (v := .pointer (some ⟨gl, i, none⟩)) rfl (by kernel_rfl) (by kernel_rfl) (by kernel_rfl) (fun _ _ _ h => h) (Or.inl ⟨by rfl, fun W hW => ?y3⟩) hs0 ?_
        case y3 => go_simp
        try dsimp only [Act.put]
        try simp only [List.setIfInBounds_toArray, List.set_cons_zero, List.set_cons_succ]
        refine wpAnyH_take (i := 3) (oi := { dst := some 61, op := Op.load 24 (Operand.tmp 60), type := 24, pos := "law.go:118", after := #[{ on := 2, ground := Ground.data }], guard := none }) (v := .slice A3 NL c3) rfl (by kernel_rfl) (by kernel_rfl) (by kernel_rfl) (fun _ _ _ h => h) (Or.inl ⟨by rfl, fun W hW => by have hcl := hW.1; go_simp⟩) hs0 ?_
        try dsimp only [Act.put]
        try simp only [List.setIfInBounds_toArray, List.set_cons_zero, List.set_cons_succ]
        refine wpAnyH_take (i := 5) (oi := { dst := some 63, op := Op.move (Operand.tmp 15), type := 47, pos := "law.go:118", after := #[], guard := none }) (v := .slice (some ⟨gk, 0, none⟩) 3 3) rfl (by kernel_rfl) (by kernel_rfl) (by kernel_rfl) (fun _ _ _ h => h) (Or.inl ⟨by rfl, fun W hW => ?y5⟩) hs0 ?_
        case y5 => go_simp
        try dsimp only [Act.put]
        try simp only [List.setIfInBounds_toArray, List.set_cons_zero, List.set_cons_succ]
        refine wpAnyH_take (i := 6) (oi := { dst := some 64, op := Op.move (Operand.tmp 16), type := 3, pos := "law.go:118", after := #[], guard := none }) (v := .int .i64 (j : Int)) rfl (by kernel_rfl) (by kernel_rfl) (by kernel_rfl) (fun _ _ _ h => h) (Or.inl ⟨by rfl, fun W hW => ?y6⟩) hs0 ?_
        case y6 => go_simp
        try dsimp only [Act.put]
        try simp only [List.setIfInBounds_toArray, List.set_cons_zero, List.set_cons_succ]
        refine wpAnyH_take (i := 7) (oi := { dst := some 65, op := Op.indexAddr 47 (Operand.tmp 63) (Operand.tmp 64), type := 0, pos := "law.go:118", after := #[{ on := 5, ground := Ground.data }, { on := 6, ground := Ground.data }], guard := none }) (v := .pointer (some ⟨gk, j, none⟩)) rfl (by kernel_rfl) (by kernel_rfl) (by kernel_rfl) (fun _ _ _ h => h) (Or.inl ⟨by rfl, fun W hW => ?y7⟩) hs0 ?_
        case y7 => go_simp
        try dsimp only [Act.put]
        try simp only [List.setIfInBounds_toArray, List.set_cons_zero, List.set_cons_succ]
        refine wpAnyH_take (i := 8) (oi := { dst := some 66, op := Op.load 9 (Operand.tmp 65), type := 9, pos := "law.go:118", after := #[{ on := 7, ground := Ground.data }], guard := none }) (v := .string KJ) rfl (by kernel_rfl) (by kernel_rfl) (by kernel_rfl) (fun _ _ _ h => h) (Or.inl ⟨by rfl, fun W hW => by have hcl := hW.2; go_simp⟩) hs0 ?_
        try dsimp only [Act.put]
        try simp only [List.setIfInBounds_toArray, List.set_cons_zero, List.set_cons_succ]
        refine wpAnyH_ready (rs := [4, 13]) (by kernel_rfl) (by simp) ?_
        refine AllReadyH.cons (o := { dst := some 62, op := Op.call { callee := Callee.value (Operand.func 13), args := #[Operand.tmp 61], argTypes := #[24] }, type := 33, pos := "law.go:118", after := #[{ on := 3, ground := Ground.data }], guard := none }) rfl (fun K hK => ?_) (AllReadyH.cons (o := { dst := some 17, op := Op.alloc 50, type := 0, pos := "law.go:118", after := #[], guard := none }) rfl (fun K hK => ?_) AllReadyH.nil)
        · rw [if_pos (by rfl)]
          have HCC := HOWN.out Wd (KS.out.trans (k0.out.mono KS.out.size))
          go_simp
          refine HCC.mono ?_; rintro e w9 ⟨A10, c11, rfl, hls, hbt⟩
          clear HCC
          have k12 := Lib.hid (k0.out.trans (hbt.mono k0.out.size))
          have hs13 := s2_below hs0 hbt
          have o14 := Lib.hid hls
          clear hls hbt
          go_wp2_with fail
          refine hK.out _ _ hs13 (fun _ => ?_)
          clear hK K
          try dsimp only [Act.put]
          try simp only [List.setIfInBounds_toArray, List.set_cons_zero, List.set_cons_succ]
          refine wpAnyH_ready (rs := [9, 13]) (by kernel_rfl) (by simp) ?_
          refine AllReadyH.cons (o := { dst := some 67, op := Op.call { callee := Callee.value (Operand.func 22), args := #[Operand.tmp 62, Operand.tmp 66], argTypes := #[33, 9] }, type := 51, pos := "law.go:118", after := #[{ on := 4, ground := Ground.data }, { on := 8, ground := Ground.data }, { on := 4, ground := Ground.chain }], guard := none }) rfl (fun K hK => ?_) (AllReadyH.cons (o := { dst := some 17, op := Op.alloc 50, type := 0, pos := "law.go:118", after := #[], guard := none }) rfl (fun K hK => ?_) AllReadyH.nil)
          · rw [if_pos (by rfl)]
            have HCC := HC11.out w9 A10 c11 (KS.out.trans (k12.out.mono KS.out.size)) o14.out
            go_simp
            refine HCC.mono ?_; rintro e w15 ⟨P16, p17, Q18, q19, rfl, hpv, hbt⟩
            clear HCC
            have k20 := Lib.hid (k12.out.trans (hbt.mono k12.out.size))
            have hs21 := s2_below hs13 hbt
            have o22 := Lib.hid ((o14.out.below hbt).more hbt.size)
            have pv23 := Lib.hid hpv
            have pb24 := Lib.hid (Below.refl w15.heap.size w15)
            have b25 := Lib.hid hbt.size
            clear hpv hbt
            go_wp2_with fail
            refine hK.out _ _ hs21 (fun _ => ?_)
            clear hK K
            try dsimp only [Act.put]
            try simp only [List.setIfInBounds_toArray, List.set_cons_zero, List.set_cons_succ]
            refine wpAnyH_take (i := 10) (oi := { dst := some 57, op := Op.move (Operand.tmp 67), type := 51, pos := "law.go:118", after := #[{ on := 9, ground := Ground.data }], guard := none }) (v := .tuple #[.agg (PR pq.first pq.size (.slice P16 nq p17) (.slice Q18 mq q19)).toArray, .int .i64 V]) rfl (by kernel_rfl) (by kernel_rfl) (by kernel_rfl) (fun _ _ _ h => h) (Or.inl ⟨by rfl, fun W hW => ?y26⟩) hs21 ?_
            case y26 => go_simp
            try dsimp only [Act.put]
            try simp only [List.setIfInBounds_toArray, List.set_cons_zero, List.set_cons_succ]
            refine wpAnyH_take (i := 11) (oi := { dst := some 68, op := Op.extract (Operand.tmp 57) 0, type := 50, pos := "law.go:118", after := #[{ on := 10, ground := Ground.data }], guard := none }) (v := .agg (PR pq.first pq.size (.slice P16 nq p17) (.slice Q18 mq q19)).toArray) rfl (by kernel_rfl) (by kernel_rfl) (by kernel_rfl) (fun _ _ _ h => h) (Or.inl ⟨by rfl, fun W hW => ?y27⟩) hs21 ?_
            case y27 => go_simp
            try dsimp only [Act.put]
            try simp only [List.setIfInBounds_toArray, List.set_cons_zero, List.set_cons_succ]
            refine wpAnyH_take (i := 12) (oi := { dst := some 69, op := Op.extract (Operand.tmp 57) 1, type := 30, pos := "law.go:118", after := #[{ on := 10, ground := Ground.data }, { on := 14, ground := Ground.gcOnly Departure.lateStores }], guard := none }) (v := .int .i64 V) rfl (by kernel_rfl) (by kernel_rfl) (by kernel_rfl) (fun _ _ _ h => h) (Or.inl ⟨by rfl, fun W hW => ?y28⟩) hs21 ?_
            case y28 => go_simp
            try dsimp only [Act.put]
            try simp only [List.setIfInBounds_toArray, List.set_cons_zero, List.set_cons_succ]
            refine wpAnyH_ready (rs := [13]) (by kernel_rfl) (by simp) ?_
            refine AllReadyH.cons (o := { dst := some 17, op := Op.alloc 50, type := 0, pos := "law.go:118", after := #[], guard := none }) rfl (fun K hK => ?_) AllReadyH.nil
            rw [if_pos (by rfl)]
            have od35 := Lib.hid (show w15.heap.size ≤ w15.heap.size from pb24.out.size)
            have hbt := (Below.refl w15.heap.size w15).alloc (Nat.le_refl _) (.cells ZP.toArray 50)
            have k29 := Lib.hid (k20.out.trans (hbt.mono k20.out.size))
            have hs30 := s2_below hs21 hbt
            have o31 := Lib.hid ((o22.out.below hbt).more hbt.size)
            have pb32 := Lib.hid (pb24.out.trans (hbt.mono pb24.out.size))
            have z33 := Lib.hid (Blk.new w15 50 ZP)
            have gb34 := Lib.hid (k20.out.size)
            clear hbt
            go_simp
            refine hK.out _ _ hs30 (fun _ => ?_)
            clear hK K
            try dsimp only [Act.put]
            try simp only [List.setIfInBounds_toArray, List.set_cons_zero, List.set_cons_succ]
            refine wpAnyH_ready (rs := [14]) (by kernel_rfl) (by simp) ?_
            refine AllReadyH.cons (o := { dst := none, op := Op.store 50 (Operand.tmp 17) (Operand.tmp 68), type := 0, pos := "law.go:118", after := #[{ on := 13, ground := Ground.data }, { on := 11, ground := Ground.data }, { on := 9, ground := Ground.chain }, { on := 0, ground := Ground.phase }, { on := 1, ground := Ground.phase }, { on := 2, ground := Ground.phase }, { on := 3, ground := Ground.phase }, { on := 4, ground := Ground.phase }, { on := 5, ground := Ground.phase }, { on := 6, ground := Ground.phase }, { on := 7, ground := Ground.phase }, { on := 8, ground := Ground.phase }, { on := 9, ground := Ground.phase }, { on := 10, ground := Ground.phase }, { on := 11, ground := Ground.phase }, { on := 12, ground := Ground.textOnly Departure.lateStores }, { on := 13, ground := Ground.phase }], guard := none }) rfl (fun K hK => ?_) AllReadyH.nil
            rw [if_pos (by rfl)]
            have hne := gb34.out
            have hs9 := s2_row (b := w15.heap.size) (c := (PR pq.first pq.size (.slice P16 nq p17) (.slice Q18 mq q19)).toArray) hs30 (by omega) (by omega)
            have PF := Lib.hid (ProofV.keep (W' := (w15.alloc (.cells ZP.toArray 50)).setRow w15.heap.size (PR pq.first pq.size (.slice P16 nq p17) (.slice Q18 mq q19)).toArray) pv23.out (Nat.le_trans pb32.out.size (by simp)) (fun k hk hb2 => (heap_setRow_other _ _ _ _ (by have h5 := b25.out; have h6 := od35.out; omega)).trans (pb32.out.block k hk)))
            have KE := Lib.hid (show BxT ((w15.alloc (.cells ZP.toArray 50)).setRow w15.heap.size (PR pq.first pq.size (.slice P16 nq p17) (.slice Q18 mq q19)).toArray) (w15.heap.size) 50 pq P16 Q18 nq mq p17 q19 ∧ Below Ws.heap.size Ws ((w15.alloc (.cells ZP.toArray 50)).setRow w15.heap.size (PR pq.first pq.size (.slice P16 nq p17) (.slice Q18 mq q19)).toArray) from ⟨⟨z33.out.row _, pfAt_at PF.out HFq.out⟩, belowRow k29.out gb34.out _⟩)
            refine wp_store_row 50 (.tmp 17) (.tmp 68) rfl (w15.heap.size) (PR pq.first pq.size (.slice P16 nq p17) (.slice Q18 mq q19)).toArray rfl rfl 50 _ (show ((w15.alloc (.cells ZP.toArray 50))).heap[w15.heap.size]? = _ from z33.out) (size50A _ _ _ _) (ZP_PR _ _ _ _) (PR_one _ _ _ _ _ _ _ _) ?_
            refine hK.out _ _ hs9 (fun _ => ?_)
            clear hK K
            try dsimp only [Act.put]
            try simp only [List.setIfInBounds_toArray, List.set_cons_zero, List.set_cons_succ]
            refine wpAnyH_ready (rs := [15]) (by kernel_rfl) (by simp) ?_
            refine AllReadyH.cons (o := { dst := some 18, op := Op.assign (Operand.tmp 69), type := 30, pos := "law.go:118", after := #[{ on := 12, ground := Ground.data }, { on := 14, ground := Ground.chain }, { on := 0, ground := Ground.phase }, { on := 1, ground := Ground.phase }, { on := 2, ground := Ground.phase }, { on := 3, ground := Ground.phase }, { on := 4, ground := Ground.phase }, { on := 5, ground := Ground.phase }, { on := 6, ground := Ground.phase }, { on := 7, ground := Ground.phase }, { on := 8, ground := Ground.phase }, { on := 9, ground := Ground.phase }, { on := 10, ground := Ground.phase }, { on := 11, ground := Ground.phase }, { on := 12, ground := Ground.phase }, { on := 13, ground := Ground.phase }, { on := 14, ground := Ground.phase }], guard := none }) rfl (fun K hK => ?_) AllReadyH.nil
            rw [if_pos (by rfl)]
            go_simp
            refine hK.out _ _ hs9 (fun _ => ?_)
            clear hK K
            try dsimp only [Act.put]
            try simp only [List.setIfInBounds_toArray, List.set_cons_zero, List.set_cons_succ]
            refine wpAnyH_done (by kernel_rfl) ?_ _
            try dsimp only [Act.put]
            try simp only [List.setIfInBounds_toArray, List.set_cons_zero, List.set_cons_succ]
            go_wp2_with fail
            go_meet
            exact ⟨w15.heap.size, P16, Q18, p17, q19, rfl, rfl, KE⟩
          · rw [if_pos (by rfl)]
            have hbt := (Below.refl w9.heap.size w9).alloc (Nat.le_refl _) (.cells ZP.toArray 50)
            have k36 := Lib.hid (k12.out.trans (hbt.mono k12.out.size))
            have hs37 := s2_below hs13 hbt
            have o38 := Lib.hid ((o14.out.below hbt).more hbt.size)
            have z39 := Lib.hid (Blk.new w9 50 ZP)
            have gb40 := Lib.hid (k12.out.size)
            clear hbt
            go_simp
            refine hK.out _ _ hs37 (fun _ => ?_)
            clear hK K
            try dsimp only [Act.put]
            try simp only [List.setIfInBounds_toArray, List.set_cons_zero, List.set_cons_succ]
            refine wpAnyH_ready (rs := [9]) (by kernel_rfl) (by simp) ?_
            refine AllReadyH.cons (o := { dst := some 67, op := Op.call { callee := Callee.value (Operand.func 22), args := #[Operand.tmp 62, Operand.tmp 66], argTypes := #[33, 9] }, type := 51, pos := "law.go:118", after := #[{ on := 4, ground := Ground.data }, { on := 8, ground := Ground.data }, { on := 4, ground := Ground.chain }], guard := none }) rfl (fun K hK => ?_) AllReadyH.nil
            rw [if_pos (by rfl)]
            have od53 := Lib.hid (show w9.heap.size < (w9.alloc (.cells ZP.toArray 50)).heap.size from z39.out.lt)
            have HCC := HC11.out (w9.alloc (.cells ZP.toArray 50)) A10 c11 (KS.out.trans (k36.out.mono KS.out.size)) o38.out
            go_simp
            refine HCC.mono ?_; rintro e w41 ⟨P42, p43, Q44, q45, rfl, hpv, hbt⟩
            clear HCC
            have k46 := Lib.hid (k36.out.trans (hbt.mono k36.out.size))
            have hs47 := s2_below hs37 hbt
            have o48 := Lib.hid ((o38.out.below hbt).more hbt.size)
            have z49 := Lib.hid (z39.out.below hbt z39.out.lt)
            have pv50 := Lib.hid hpv
            have pb51 := Lib.hid (Below.refl w41.heap.size w41)
            have b52 := Lib.hid hbt.size
            clear hpv hbt
            go_wp2_with fail
            refine hK.out _ _ hs47 (fun _ => ?_)
            clear hK K
            try dsimp only [Act.put]
            try simp only [List.setIfInBounds_toArray, List.set_cons_zero, List.set_cons_succ]
            refine wpAnyH_take (i := 10) (oi := { dst := some 57, op := Op.move (Operand.tmp 67), type := 51, pos := "law.go:118", after := #[{ on := 9, ground := Ground.data }], guard := none }) (v := .tuple #[.agg (PR pq.first pq.size (.slice P42 nq p43) (.slice Q44 mq q45)).toArray, .int .i64 V]) rfl (by kernel_rfl) (by kernel_rfl) (by kernel_rfl) (fun _ _ _ h => h) (Or.inl ⟨by rfl, fun W hW => ?y54⟩) hs47 ?_
            case y54 => go_simp
            try dsimp only [Act.put]
            try simp only [List.setIfInBounds_toArray, List.set_cons_zero, List.set_cons_succ]
            refine wpAnyH_take (i := 11) (oi := { dst := some 68, op := Op.extract (Operand.tmp 57) 0, type := 50, pos := "law.go:118", after := #[{ on := 10, ground := Ground.data }], guard := none }) (v := .agg (PR pq.first pq.size (.slice P42 nq p43) (.slice Q44 mq q45)).toArray) rfl (by kernel_rfl) (by kernel_rfl) (by kernel_rfl) (fun _ _ _ h => h) (Or.inl ⟨by rfl, fun W hW => ?y55⟩) hs47 ?_
            case y55 => go_simp
            try dsimp only [Act.put]
            try simp only [List.setIfInBounds_toArray, List.set_cons_zero, List.set_cons_succ]
            refine wpAnyH_take (i := 12) (oi := { dst := some 69, op := Op.extract (Operand.tmp 57) 1, type := 30, pos := "law.go:118", after := #[{ on := 10, ground := Ground.data }, { on := 14, ground := Ground.gcOnly Departure.lateStores }], guard := none }) (v := .int .i64 V) rfl (by kernel_rfl) (by kernel_rfl) (by kernel_rfl) (fun _ _ _ h => h) (Or.inl ⟨by rfl, fun W hW => ?y56⟩) hs47 ?_
            case y56 => go_simp
            try dsimp only [Act.put]
            try simp only [List.setIfInBounds_toArray, List.set_cons_zero, List.set_cons_succ]
            refine wpAnyH_ready (rs := [14]) (by kernel_rfl) (by simp) ?_
            refine AllReadyH.cons (o := { dst := none, op := Op.store 50 (Operand.tmp 17) (Operand.tmp 68), type := 0, pos := "law.go:118", after := #[{ on := 13, ground := Ground.data }, { on := 11, ground := Ground.data }, { on := 9, ground := Ground.chain }, { on := 0, ground := Ground.phase }, { on := 1, ground := Ground.phase }, { on := 2, ground := Ground.phase }, { on := 3, ground := Ground.phase }, { on := 4, ground := Ground.phase }, { on := 5, ground := Ground.phase }, { on := 6, ground := Ground.phase }, { on := 7, ground := Ground.phase }, { on := 8, ground := Ground.phase }, { on := 9, ground := Ground.phase }, { on := 10, ground := Ground.phase }, { on := 11, ground := Ground.phase }, { on := 12, ground := Ground.textOnly Departure.lateStores }, { on := 13, ground := Ground.phase }], guard := none }) rfl (fun K hK => ?_) AllReadyH.nil
            rw [if_pos (by rfl)]
            have hne := gb40.out
            have hs9 := s2_row (b := w9.heap.size) (c := (PR pq.first pq.size (.slice P42 nq p43) (.slice Q44 mq q45)).toArray) hs47 (by omega) (by omega)
            have PF := Lib.hid (ProofV.keep (W' := w41.setRow w9.heap.size (PR pq.first pq.size (.slice P42 nq p43) (.slice Q44 mq q45)).toArray) pv50.out (Nat.le_trans pb51.out.size (by simp)) (fun k hk hb2 => (heap_setRow_other _ _ _ _ (by have h5 := b52.out; have h6 := od53.out; omega)).trans (pb51.out.block k hk)))
            have KE := Lib.hid (show BxT (w41.setRow w9.heap.size (PR pq.first pq.size (.slice P42 nq p43) (.slice Q44 mq q45)).toArray) (w9.heap.size) 50 pq P42 Q44 nq mq p43 q45 ∧ Below Ws.heap.size Ws (w41.setRow w9.heap.size (PR pq.first pq.size (.slice P42 nq p43) (.slice Q44 mq q45)).toArray) from ⟨⟨z49.out.row _, pfAt_at PF.out HFq.out⟩, belowRow k46.out gb40.out _⟩)
            refine wp_store_row 50 (.tmp 17) (.tmp 68) rfl (w9.heap.size) (PR pq.first pq.size (.slice P42 nq p43) (.slice Q44 mq q45)).toArray rfl rfl 50 _ (show (w41).heap[w9.heap.size]? = _ from z49.out) (size50A _ _ _ _) (ZP_PR _ _ _ _) (PR_one _ _ _ _ _ _ _ _) ?_
            refine hK.out _ _ hs9 (fun _ => ?_)
            clear hK K
            try dsimp only [Act.put]
            try simp only [List.setIfInBounds_toArray, List.set_cons_zero, List.set_cons_succ]
            refine wpAnyH_ready (rs := [15]) (by kernel_rfl) (by simp) ?_
            refine AllReadyH.cons (o := { dst := some 18, op := Op.assign (Operand.tmp 69), type := 30, pos := "law.go:118", after := #[{ on := 12, ground := Ground.data }, { on := 14, ground := Ground.chain }, { on := 0, ground := Ground.phase }, { on := 1, ground := Ground.phase }, { on := 2, ground := Ground.phase }, { on := 3, ground := Ground.phase }, { on := 4, ground := Ground.phase }, { on := 5, ground := Ground.phase }, { on := 6, ground := Ground.phase }, { on := 7, ground := Ground.phase }, { on := 8, ground := Ground.phase }, { on := 9, ground := Ground.phase }, { on := 10, ground := Ground.phase }, { on := 11, ground := Ground.phase }, { on := 12, ground := Ground.phase }, { on := 13, ground := Ground.phase }, { on := 14, ground := Ground.phase }], guard := none }) rfl (fun K hK => ?_) AllReadyH.nil
            rw [if_pos (by rfl)]
            go_simp
            refine hK.out _ _ hs9 (fun _ => ?_)
            clear hK K
            try dsimp only [Act.put]
            try simp only [List.setIfInBounds_toArray, List.set_cons_zero, List.set_cons_succ]
            refine wpAnyH_done (by kernel_rfl) ?_ _
            try dsimp only [Act.put]
            try simp only [List.setIfInBounds_toArray, List.set_cons_zero, List.set_cons_succ]
            go_wp2_with fail
            go_meet
            exact ⟨w9.heap.size, P42, Q44, p43, q45, rfl, rfl, KE⟩
        · rw [if_pos (by rfl)]
          have hbt := (Below.refl Wd.heap.size Wd).alloc (Nat.le_refl _) (.cells ZP.toArray 50)
          have k57 := Lib.hid (k0.out.trans (hbt.mono k0.out.size))
          have hs58 := s2_below hs0 hbt
          have z59 := Lib.hid (Blk.new Wd 50 ZP)
          have gb60 := Lib.hid (k0.out.size)
          clear hbt
          go_simp
          refine hK.out _ _ hs58 (fun _ => ?_)
          clear hK K
          try dsimp only [Act.put]
          try simp only [List.setIfInBounds_toArray, List.set_cons_zero, List.set_cons_succ]
          refine wpAnyH_ready (rs := [4]) (by kernel_rfl) (by simp) ?_
          refine AllReadyH.cons (o := { dst := some 62, op := Op.call { callee := Callee.value (Operand.func 13), args := #[Operand.tmp 61], argTypes := #[24] }, type := 33, pos := "law.go:118", after := #[{ on := 3, ground := Ground.data }], guard := none }) rfl (fun K hK => ?_) AllReadyH.nil
          rw [if_pos (by rfl)]
          have HCC := HOWN.out (Wd.alloc (.cells ZP.toArray 50)) (KS.out.trans (k57.out.mono KS.out.size))
          go_simp
          refine HCC.mono ?_; rintro e w61 ⟨A62, c63, rfl, hls, hbt⟩
          clear HCC
          have k64 := Lib.hid (k57.out.trans (hbt.mono k57.out.size))
          have hs65 := s2_below hs58 hbt
          have z66 := Lib.hid (z59.out.below hbt z59.out.lt)
          have o67 := Lib.hid hls
          clear hls hbt
          go_wp2_with fail
          refine hK.out _ _ hs65 (fun _ => ?_)
          clear hK K
          try dsimp only [Act.put]
          try simp only [List.setIfInBounds_toArray, List.set_cons_zero, List.set_cons_succ]
          refine wpAnyH_ready (rs := [9]) (by kernel_rfl) (by simp) ?_
          refine AllReadyH.cons (o := { dst := some 67, op := Op.call { callee := Callee.value (Operand.func 22), args := #[Operand.tmp 62, Operand.tmp 66], argTypes := #[33, 9] }, type := 51, pos := "law.go:118", after := #[{ on := 4, ground := Ground.data }, { on := 8, ground := Ground.data }, { on := 4, ground := Ground.chain }], guard := none }) rfl (fun K hK => ?_) AllReadyH.nil
          rw [if_pos (by rfl)]
          have od80 := Lib.hid (show Wd.heap.size < w61.heap.size from z66.out.lt)
          have HCC := HC11.out w61 A62 c63 (KS.out.trans (k64.out.mono KS.out.size)) o67.out
          go_simp
          refine HCC.mono ?_; rintro e w68 ⟨P69, p70, Q71, q72, rfl, hpv, hbt⟩
          clear HCC
          have k73 := Lib.hid (k64.out.trans (hbt.mono k64.out.size))
          have hs74 := s2_below hs65 hbt
          have o75 := Lib.hid ((o67.out.below hbt).more hbt.size)
          have z76 := Lib.hid (z66.out.below hbt z66.out.lt)
          have pv77 := Lib.hid hpv
          have pb78 := Lib.hid (Below.refl w68.heap.size w68)
          have b79 := Lib.hid hbt.size
          clear hpv hbt
          go_wp2_with fail
          refine hK.out _ _ hs74 (fun _ => ?_)
          clear hK K
          try dsimp only [Act.put]
          try simp only [List.setIfInBounds_toArray, List.set_cons_zero, List.set_cons_succ]
          refine wpAnyH_take (i := 10) (oi := { dst := some 57, op := Op.move (Operand.tmp 67), type := 51, pos := "law.go:118", after := #[{ on := 9, ground := Ground.data }], guard := none }) (v := .tuple #[.agg (PR pq.first pq.size (.slice P69 nq p70) (.slice Q71 mq q72)).toArray, .int .i64 V]) rfl (by kernel_rfl) (by kernel_rfl) (by kernel_rfl) (fun _ _ _ h => h) (Or.inl ⟨by rfl, fun W hW => ?y81⟩) hs74 ?_
          case y81 => go_simp
          try dsimp only [Act.put]
          try simp only [List.setIfInBounds_toArray, List.set_cons_zero, List.set_cons_succ]
          refine wpAnyH_take (i := 11) (oi := { dst := some 68, op := Op.extract (Operand.tmp 57) 0, type := 50, pos := "law.go:118", after := #[{ on := 10, ground := Ground.data }], guard := none }) (v := .agg (PR pq.first pq.size (.slice P69 nq p70) (.slice Q71 mq q72)).toArray) rfl (by kernel_rfl) (by kernel_rfl) (by kernel_rfl) (fun _ _ _ h => h) (Or.inl ⟨by rfl, fun W hW => ?y82⟩) hs74 ?_
          case y82 => go_simp
          try dsimp only [Act.put]
          try simp only [List.setIfInBounds_toArray, List.set_cons_zero, List.set_cons_succ]
          refine wpAnyH_take (i := 12) (oi := { dst := some 69, op := Op.extract (Operand.tmp 57) 1, type := 30, pos := "law.go:118", after := #[{ on := 10, ground := Ground.data }, { on := 14, ground := Ground.gcOnly Departure.lateStores }], guard := none }) (v := .int .i64 V) rfl (by kernel_rfl) (by kernel_rfl) (by kernel_rfl) (fun _ _ _ h => h) (Or.inl ⟨by rfl, fun W hW => ?y83⟩) hs74 ?_
          case y83 => go_simp
          try dsimp only [Act.put]
          try simp only [List.setIfInBounds_toArray, List.set_cons_zero, List.set_cons_succ]
          refine wpAnyH_ready (rs := [14]) (by kernel_rfl) (by simp) ?_
          refine AllReadyH.cons (o := { dst := none, op := Op.store 50 (Operand.tmp 17) (Operand.tmp 68), type := 0, pos := "law.go:118", after := #[{ on := 13, ground := Ground.data }, { on := 11, ground := Ground.data }, { on := 9, ground := Ground.chain }, { on := 0, ground := Ground.phase }, { on := 1, ground := Ground.phase }, { on := 2, ground := Ground.phase }, { on := 3, ground := Ground.phase }, { on := 4, ground := Ground.phase }, { on := 5, ground := Ground.phase }, { on := 6, ground := Ground.phase }, { on := 7, ground := Ground.phase }, { on := 8, ground := Ground.phase }, { on := 9, ground := Ground.phase }, { on := 10, ground := Ground.phase }, { on := 11, ground := Ground.phase }, { on := 12, ground := Ground.textOnly Departure.lateStores }, { on := 13, ground := Ground.phase }], guard := none }) rfl (fun K hK => ?_) AllReadyH.nil
          rw [if_pos (by rfl)]
          have hne := gb60.out
          have hs9 := s2_row (b := Wd.heap.size) (c := (PR pq.first pq.size (.slice P69 nq p70) (.slice Q71 mq q72)).toArray) hs74 (by omega) (by omega)
          have PF := Lib.hid (ProofV.keep (W' := w68.setRow Wd.heap.size (PR pq.first pq.size (.slice P69 nq p70) (.slice Q71 mq q72)).toArray) pv77.out (Nat.le_trans pb78.out.size (by simp)) (fun k hk hb2 => (heap_setRow_other _ _ _ _ (by have h5 := b79.out; have h6 := od80.out; omega)).trans (pb78.out.block k hk)))
          have KE := Lib.hid (show BxT (w68.setRow Wd.heap.size (PR pq.first pq.size (.slice P69 nq p70) (.slice Q71 mq q72)).toArray) (Wd.heap.size) 50 pq P69 Q71 nq mq p70 q72 ∧ Below Ws.heap.size Ws (w68.setRow Wd.heap.size (PR pq.first pq.size (.slice P69 nq p70) (.slice Q71 mq q72)).toArray) from ⟨⟨z76.out.row _, pfAt_at PF.out HFq.out⟩, belowRow k73.out gb60.out _⟩)
          refine wp_store_row 50 (.tmp 17) (.tmp 68) rfl (Wd.heap.size) (PR pq.first pq.size (.slice P69 nq p70) (.slice Q71 mq q72)).toArray rfl rfl 50 _ (show (w68).heap[Wd.heap.size]? = _ from z76.out) (size50A _ _ _ _) (ZP_PR _ _ _ _) (PR_one _ _ _ _ _ _ _ _) ?_
          refine hK.out _ _ hs9 (fun _ => ?_)
          clear hK K
          try dsimp only [Act.put]
          try simp only [List.setIfInBounds_toArray, List.set_cons_zero, List.set_cons_succ]
          refine wpAnyH_ready (rs := [15]) (by kernel_rfl) (by simp) ?_
          refine AllReadyH.cons (o := { dst := some 18, op := Op.assign (Operand.tmp 69), type := 30, pos := "law.go:118", after := #[{ on := 12, ground := Ground.data }, { on := 14, ground := Ground.chain }, { on := 0, ground := Ground.phase }, { on := 1, ground := Ground.phase }, { on := 2, ground := Ground.phase }, { on := 3, ground := Ground.phase }, { on := 4, ground := Ground.phase }, { on := 5, ground := Ground.phase }, { on := 6, ground := Ground.phase }, { on := 7, ground := Ground.phase }, { on := 8, ground := Ground.phase }, { on := 9, ground := Ground.phase }, { on := 10, ground := Ground.phase }, { on := 11, ground := Ground.phase }, { on := 12, ground := Ground.phase }, { on := 13, ground := Ground.phase }, { on := 14, ground := Ground.phase }], guard := none }) rfl (fun K hK => ?_) AllReadyH.nil
          rw [if_pos (by rfl)]
          go_simp
          refine hK.out _ _ hs9 (fun _ => ?_)
          clear hK K
          try dsimp only [Act.put]
          try simp only [List.setIfInBounds_toArray, List.set_cons_zero, List.set_cons_succ]
          refine wpAnyH_done (by kernel_rfl) ?_ _
          try dsimp only [Act.put]
          try simp only [List.setIfInBounds_toArray, List.set_cons_zero, List.set_cons_succ]
          go_wp2_with fail
          go_meet
          exact ⟨Wd.heap.size, P69, Q71, p70, q72, rfl, rfl, KE⟩
      case rest =>
        obtain ⟨g11, A111, A211, c111, c211, rfl, rfl, KE⟩ := hcut
        obtain ⟨w11, hw11⟩ : ∃ W, W = wc := ⟨_, rfl⟩
        rw [← hw11] at KE ⊢
        have X11 := Lib.hid KE.out.1
        have K11 := Lib.hid (KS.out.trans (KE.out.2.mono KS.out.size))
        clear KE hw11 HS KS HSZ hgl7 hgk7 hWs
        go_upto_region 12 with fail
        obtain ⟨Ws, hWs⟩ : ∃ W, W = w11 := ⟨_, rfl⟩
        have KS := K11
        have HS := Lib.hid (show Ws.cell? ⟨gl, i, none⟩ = some (.slice A3 NL c3) ∧ Ws.cell? ⟨gk, j, none⟩ = some (.string KJ) from by rw [hWs]; exact ⟨(K11.out.cell (p := ⟨gl, i, none⟩) HGLT.out).trans HCE.out, (K11.out.cell (p := ⟨gk, j, none⟩) HGKT.out).trans HKE.out⟩)
        rw [← hWs] at KS ⊢
        have HSZ := Lib.hid KS.out.size
        have hgl7 : gl < Ws.heap.size := Nat.lt_of_lt_of_le HGLT.out KS.out.size
        have hgk7 : gk < Ws.heap.size := Nat.lt_of_lt_of_le HGKT.out KS.out.size
        go_cut [19, 20] from 53 to 130 (fun sb se wx => ∃ gb A1 A2 c1 c2, sb = .pointer (some ⟨gb, 0, none⟩) ∧ se = .int .i64 V ∧ Hid (BxT wx gb 54 pq A1 A2 nq mq c1 c2 ∧ Below Ws.heap.size Ws wx))
        case first =>
          refine wp_region_held (S := fun W => W.cell? ⟨gl, i, none⟩ = some (.slice A3 NL c3) ∧ W.cell? ⟨gk, j, none⟩ = some (.string KJ)) (by kernel_rfl) ?_
          change wpAnyH _ _ _ _ _ _ _ _ (World.drew Ws)
          have k0 := Lib.hid (Below.refl Ws.heap.size Ws).drew
          have hs0 : (World.drew Ws).cell? ⟨gl, i, none⟩ = some (.slice A3 NL c3) ∧ (World.drew Ws).cell? ⟨gk, j, none⟩ = some (.string KJ) := HS.out
          generalize World.drew Ws = Wd at k0 hs0 ⊢
          refine wpAnyH_take (i := 0) (oi := { dst := some 71, op := Op.move (Operand.tmp 11), type := 27, pos := "law.go:119", after := #[], guard := none }) (v := .slice (some ⟨gl, 0, none⟩) 3 3) rfl (by kernel_rfl) (by kernel_rfl) (by kernel_rfl) (fun _ _ _ h => h) (Or.inl ⟨by rfl, fun W hW => ?y1⟩) hs0 ?_
          case y1 => go_simp
          try dsimp only [Act.put]
          try simp only [List.setIfInBounds_toArray, List.set_cons_zero, List.set_cons_succ]
          refine wpAnyH_take (i := 1) (oi := { dst := some 72, op := Op.move (Operand.tmp 12), type := 3, pos := "law.go:119", after := #[], guard := none }) (v := .int .i64 (i : Int)) rfl (by kernel_rfl) (by kernel_rfl) (by kernel_rfl) (fun _ _ _ h => h) (Or.inl ⟨by rfl, fun W hW => ?y2⟩) hs0 ?_
          case y2 => go_simp
          try dsimp only [Act.put]
          try simp only [List.setIfInBounds_toArray, List.set_cons_zero, List.set_cons_succ]
          refine wpAnyH_take (i := 2) (oi := { dst := some 73, op := Op.indexAddr 27 (Operand.tmp 71) (Operand.tmp 72), type := 0, pos := "law.go:119", after := #[{ on := 0, ground := Ground.data }, { on := 1, ground := Ground.data }], guard := none }) (v := .pointer (some ⟨gl, i, none⟩)) rfl (by kernel_rfl) (by kernel_rfl) (by kernel_rfl) (fun _ _ _ h => h) (Or.inl ⟨by rfl, fun W hW => ?y3⟩) hs0 ?_
          case y3 => go_simp
          try dsimp only [Act.put]
          try simp only [List.setIfInBounds_toArray, List.set_cons_zero, List.set_cons_succ]
          refine wpAnyH_take (i := 3) (oi := { dst := some 74, op := Op.load 24 (Operand.tmp 73), type := 24, pos := "law.go:119", after := #[{ on := 2, ground := Ground.data }], guard := none }) (v := .slice A3 NL c3) rfl (by kernel_rfl) (by kernel_rfl) (by kernel_rfl) (fun _ _ _ h => h) (Or.inl ⟨by rfl, fun W hW => by have hcl := hW.1; go_simp⟩) hs0 ?_
          try dsimp only [Act.put]
          try simp only [List.setIfInBounds_toArray, List.set_cons_zero, List.set_cons_succ]
          refine wpAnyH_take (i := 4) (oi := { dst := some 75, op := Op.move (Operand.tmp 15), type := 47, pos := "law.go:119", after := #[], guard := none }) (v := .slice (some ⟨gk, 0, none⟩) 3 3) rfl (by kernel_rfl) (by kernel_rfl) (by kernel_rfl) (fun _ _ _ h => h) (Or.inl ⟨by rfl, fun W hW => ?y5⟩) hs0 ?_
          case y5 => go_simp
          try dsimp only [Act.put]
          try simp only [List.setIfInBounds_toArray, List.set_cons_zero, List.set_cons_succ]
          refine wpAnyH_take (i := 5) (oi := { dst := some 76, op := Op.move (Operand.tmp 16), type := 3, pos := "law.go:119", after := #[], guard := none }) (v := .int .i64 (j : Int)) rfl (by kernel_rfl) (by kernel_rfl) (by kernel_rfl) (fun _ _ _ h => h) (Or.inl ⟨by rfl, fun W hW => ?y6⟩) hs0 ?_
          case y6 => go_simp
          try dsimp only [Act.put]
          try simp only [List.setIfInBounds_toArray, List.set_cons_zero, List.set_cons_succ]
          refine wpAnyH_take (i := 6) (oi := { dst := some 77, op := Op.indexAddr 47 (Operand.tmp 75) (Operand.tmp 76), type := 0, pos := "law.go:119", after := #[{ on := 4, ground := Ground.data }, { on := 5, ground := Ground.data }], guard := none }) (v := .pointer (some ⟨gk, j, none⟩)) rfl (by kernel_rfl) (by kernel_rfl) (by kernel_rfl) (fun _ _ _ h => h) (Or.inl ⟨by rfl, fun W hW => ?y7⟩) hs0 ?_
          case y7 => go_simp
          try dsimp only [Act.put]
          try simp only [List.setIfInBounds_toArray, List.set_cons_zero, List.set_cons_succ]
          refine wpAnyH_take (i := 7) (oi := { dst := some 78, op := Op.load 9 (Operand.tmp 77), type := 9, pos := "law.go:119", after := #[{ on := 6, ground := Ground.data }], guard := none }) (v := .string KJ) rfl (by kernel_rfl) (by kernel_rfl) (by kernel_rfl) (fun _ _ _ h => h) (Or.inl ⟨by rfl, fun W hW => by have hcl := hW.2; go_simp⟩) hs0 ?_
          try dsimp only [Act.put]
          try simp only [List.setIfInBounds_toArray, List.set_cons_zero, List.set_cons_succ]
          refine wpAnyH_ready (rs := [8, 12]) (by kernel_rfl) (by simp) ?_
          refine AllReadyH.cons (o := { dst := some 79, op := Op.call { callee := Callee.value (Operand.func 23), args := #[Operand.tmp 74, Operand.tmp 78], argTypes := #[24, 9] }, type := 55, pos := "law.go:119", after := #[{ on := 3, ground := Ground.data }, { on := 7, ground := Ground.data }], guard := none }) rfl (fun K hK => ?_) (AllReadyH.cons (o := { dst := some 19, op := Op.alloc 54, type := 0, pos := "law.go:119", after := #[], guard := none }) rfl (fun K hK => ?_) AllReadyH.nil)
          · rw [if_pos (by rfl)]
            have HCC := HC12.out Wd (KS.out.trans (k0.out.mono KS.out.size))
            go_simp
            refine HCC.mono ?_; rintro e w9 ⟨P10, p11, Q12, q13, rfl, hpv, hbt⟩
            clear HCC
            have k14 := Lib.hid (k0.out.trans (hbt.mono k0.out.size))
            have hs15 := s2_below hs0 hbt
            have pv16 := Lib.hid hpv
            have pb17 := Lib.hid (Below.refl w9.heap.size w9)
            have b18 := Lib.hid hbt.size
            clear hpv hbt
            go_wp2_with fail
            refine hK.out _ _ hs15 (fun _ => ?_)
            clear hK K
            try dsimp only [Act.put]
            try simp only [List.setIfInBounds_toArray, List.set_cons_zero, List.set_cons_succ]
            refine wpAnyH_take (i := 9) (oi := { dst := some 70, op := Op.move (Operand.tmp 79), type := 55, pos := "law.go:119", after := #[{ on := 8, ground := Ground.data }], guard := none }) (v := .tuple #[.agg (PR pq.first pq.size (.slice P10 nq p11) (.slice Q12 mq q13)).toArray, .int .i64 V]) rfl (by kernel_rfl) (by kernel_rfl) (by kernel_rfl) (fun _ _ _ h => h) (Or.inl ⟨by rfl, fun W hW => ?y19⟩) hs15 ?_
            case y19 => go_simp
            try dsimp only [Act.put]
            try simp only [List.setIfInBounds_toArray, List.set_cons_zero, List.set_cons_succ]
            refine wpAnyH_take (i := 10) (oi := { dst := some 80, op := Op.extract (Operand.tmp 70) 0, type := 54, pos := "law.go:119", after := #[{ on := 9, ground := Ground.data }], guard := none }) (v := .agg (PR pq.first pq.size (.slice P10 nq p11) (.slice Q12 mq q13)).toArray) rfl (by kernel_rfl) (by kernel_rfl) (by kernel_rfl) (fun _ _ _ h => h) (Or.inl ⟨by rfl, fun W hW => ?y20⟩) hs15 ?_
            case y20 => go_simp
            try dsimp only [Act.put]
            try simp only [List.setIfInBounds_toArray, List.set_cons_zero, List.set_cons_succ]
            refine wpAnyH_take (i := 11) (oi := { dst := some 81, op := Op.extract (Operand.tmp 70) 1, type := 30, pos := "law.go:119", after := #[{ on := 9, ground := Ground.data }, { on := 13, ground := Ground.gcOnly Departure.lateStores }], guard := none }) (v := .int .i64 V) rfl (by kernel_rfl) (by kernel_rfl) (by kernel_rfl) (fun _ _ _ h => h) (Or.inl ⟨by rfl, fun W hW => ?y21⟩) hs15 ?_
            case y21 => go_simp
            try dsimp only [Act.put]
            try simp only [List.setIfInBounds_toArray, List.set_cons_zero, List.set_cons_succ]
            refine wpAnyH_ready (rs := [12]) (by kernel_rfl) (by simp) ?_
            refine AllReadyH.cons (o := { dst := some 19, op := Op.alloc 54, type := 0, pos := "law.go:119", after := #[], guard := none }) rfl (fun K hK => ?_) AllReadyH.nil
            rw [if_pos (by rfl)]
            have od27 := Lib.hid (show w9.heap.size ≤ w9.heap.size from pb17.out.size)
            have hbt := (Below.refl w9.heap.size w9).alloc (Nat.le_refl _) (.cells ZP.toArray 54)
            have k22 := Lib.hid (k14.out.trans (hbt.mono k14.out.size))
            have hs23 := s2_below hs15 hbt
            have pb24 := Lib.hid (pb17.out.trans (hbt.mono pb17.out.size))
            have z25 := Lib.hid (Blk.new w9 54 ZP)
            have gb26 := Lib.hid (k14.out.size)
            clear hbt
            go_simp
            refine hK.out _ _ hs23 (fun _ => ?_)
            clear hK K
            try dsimp only [Act.put]
            try simp only [List.setIfInBounds_toArray, List.set_cons_zero, List.set_cons_succ]
            refine wpAnyH_ready (rs := [13]) (by kernel_rfl) (by simp) ?_
            refine AllReadyH.cons (o := { dst := none, op := Op.store 54 (Operand.tmp 19) (Operand.tmp 80), type := 0, pos := "law.go:119", after := #[{ on := 12, ground := Ground.data }, { on := 10, ground := Ground.data }, { on := 8, ground := Ground.chain }, { on := 0, ground := Ground.phase }, { on := 1, ground := Ground.phase }, { on := 2, ground := Ground.phase }, { on := 3, ground := Ground.phase }, { on := 4, ground := Ground.phase }, { on := 5, ground := Ground.phase }, { on := 6, ground := Ground.phase }, { on := 7, ground := Ground.phase }, { on := 8, ground := Ground.phase }, { on := 9, ground := Ground.phase }, { on := 10, ground := Ground.phase }, { on := 11, ground := Ground.textOnly Departure.lateStores }, { on := 12, ground := Ground.phase }], guard := none }) rfl (fun K hK => ?_) AllReadyH.nil
            rw [if_pos (by rfl)]
            have hne := gb26.out
            have hs9 := s2_row (b := w9.heap.size) (c := (PR pq.first pq.size (.slice P10 nq p11) (.slice Q12 mq q13)).toArray) hs23 (by omega) (by omega)
            have PF := Lib.hid (ProofV.keep (W' := (w9.alloc (.cells ZP.toArray 54)).setRow w9.heap.size (PR pq.first pq.size (.slice P10 nq p11) (.slice Q12 mq q13)).toArray) pv16.out (Nat.le_trans pb24.out.size (by simp)) (fun k hk hb2 => (heap_setRow_other _ _ _ _ (by have h5 := b18.out; have h6 := od27.out; omega)).trans (pb24.out.block k hk)))
            have KE := Lib.hid (show BxT ((w9.alloc (.cells ZP.toArray 54)).setRow w9.heap.size (PR pq.first pq.size (.slice P10 nq p11) (.slice Q12 mq q13)).toArray) (w9.heap.size) 54 pq P10 Q12 nq mq p11 q13 ∧ Below Ws.heap.size Ws ((w9.alloc (.cells ZP.toArray 54)).setRow w9.heap.size (PR pq.first pq.size (.slice P10 nq p11) (.slice Q12 mq q13)).toArray) from ⟨⟨z25.out.row _, pfAt_at PF.out HFq.out⟩, belowRow k22.out gb26.out _⟩)
            refine wp_store_row 54 (.tmp 19) (.tmp 80) rfl (w9.heap.size) (PR pq.first pq.size (.slice P10 nq p11) (.slice Q12 mq q13)).toArray rfl rfl 54 _ (show ((w9.alloc (.cells ZP.toArray 54))).heap[w9.heap.size]? = _ from z25.out) (size54A _ _ _ _) (ZP_PR _ _ _ _) (PR_one _ _ _ _ _ _ _ _) ?_
            refine hK.out _ _ hs9 (fun _ => ?_)
            clear hK K
            try dsimp only [Act.put]
            try simp only [List.setIfInBounds_toArray, List.set_cons_zero, List.set_cons_succ]
            refine wpAnyH_ready (rs := [14]) (by kernel_rfl) (by simp) ?_
            refine AllReadyH.cons (o := { dst := some 20, op := Op.assign (Operand.tmp 81), type := 30, pos := "law.go:119", after := #[{ on := 11, ground := Ground.data }, { on := 13, ground := Ground.chain }, { on := 0, ground := Ground.phase }, { on := 1, ground := Ground.phase }, { on := 2, ground := Ground.phase }, { on := 3, ground := Ground.phase }, { on := 4, ground := Ground.phase }, { on := 5, ground := Ground.phase }, { on := 6, ground := Ground.phase }, { on := 7, ground := Ground.phase }, { on := 8, ground := Ground.phase }, { on := 9, ground := Ground.phase }, { on := 10, ground := Ground.phase }, { on := 11, ground := Ground.phase }, { on := 12, ground := Ground.phase }, { on := 13, ground := Ground.phase }], guard := none }) rfl (fun K hK => ?_) AllReadyH.nil
            rw [if_pos (by rfl)]
            go_simp
            refine hK.out _ _ hs9 (fun _ => ?_)
            clear hK K
            try dsimp only [Act.put]
            try simp only [List.setIfInBounds_toArray, List.set_cons_zero, List.set_cons_succ]
            refine wpAnyH_done (by kernel_rfl) ?_ _
            try dsimp only [Act.put]
            try simp only [List.setIfInBounds_toArray, List.set_cons_zero, List.set_cons_succ]
            go_wp2_with fail
            go_meet
            exact ⟨w9.heap.size, P10, Q12, p11, q13, rfl, rfl, KE⟩
          · rw [if_pos (by rfl)]
            have hbt := (Below.refl Wd.heap.size Wd).alloc (Nat.le_refl _) (.cells ZP.toArray 54)
            have k28 := Lib.hid (k0.out.trans (hbt.mono k0.out.size))
            have hs29 := s2_below hs0 hbt
            have z30 := Lib.hid (Blk.new Wd 54 ZP)
            have gb31 := Lib.hid (k0.out.size)
            clear hbt
            go_simp
            refine hK.out _ _ hs29 (fun _ => ?_)
            clear hK K
            try dsimp only [Act.put]
            try simp only [List.setIfInBounds_toArray, List.set_cons_zero, List.set_cons_succ]
            refine wpAnyH_ready (rs := [8]) (by kernel_rfl) (by simp) ?_
            refine AllReadyH.cons (o := { dst := some 79, op := Op.call { callee := Callee.value (Operand.func 23), args := #[Operand.tmp 74, Operand.tmp 78], argTypes := #[24, 9] }, type := 55, pos := "law.go:119", after := #[{ on := 3, ground := Ground.data }, { on := 7, ground := Ground.data }], guard := none }) rfl (fun K hK => ?_) AllReadyH.nil
            rw [if_pos (by rfl)]
            have od43 := Lib.hid (show Wd.heap.size < (Wd.alloc (.cells ZP.toArray 54)).heap.size from z30.out.lt)
            have HCC := HC12.out (Wd.alloc (.cells ZP.toArray 54)) (KS.out.trans (k28.out.mono KS.out.size))
            go_simp
            refine HCC.mono ?_; rintro e w32 ⟨P33, p34, Q35, q36, rfl, hpv, hbt⟩
            clear HCC
            have k37 := Lib.hid (k28.out.trans (hbt.mono k28.out.size))
            have hs38 := s2_below hs29 hbt
            have z39 := Lib.hid (z30.out.below hbt z30.out.lt)
            have pv40 := Lib.hid hpv
            have pb41 := Lib.hid (Below.refl w32.heap.size w32)
            have b42 := Lib.hid hbt.size
            clear hpv hbt
            go_wp2_with fail
            refine hK.out _ _ hs38 (fun _ => ?_)
            clear hK K
            try dsimp only [Act.put]
            try simp only [List.setIfInBounds_toArray, List.set_cons_zero, List.set_cons_succ]
            refine wpAnyH_take (i := 9) (oi := { dst := some 70, op := Op.move (Operand.tmp 79), type := 55, pos := "law.go:119", after := #[{ on := 8, ground := Ground.data }], guard := none }) (v := .tuple #[.agg (PR pq.first pq.size (.slice P33 nq p34) (.slice Q35 mq q36)).toArray, .int .i64 V]) rfl (by kernel_rfl) (by kernel_rfl) (by kernel_rfl) (fun _ _ _ h => h) (Or.inl ⟨by rfl, fun W hW => ?y44⟩) hs38 ?_
            case y44 => go_simp
            try dsimp only [Act.put]
            try simp only [List.setIfInBounds_toArray, List.set_cons_zero, List.set_cons_succ]
            refine wpAnyH_take (i := 10) (oi := { dst := some 80, op := Op.extract (Operand.tmp 70) 0, type := 54, pos := "law.go:119", after := #[{ on := 9, ground := Ground.data }], guard := none }) (v := .agg (PR pq.first pq.size (.slice P33 nq p34) (.slice Q35 mq q36)).toArray) rfl (by kernel_rfl) (by kernel_rfl) (by kernel_rfl) (fun _ _ _ h => h) (Or.inl ⟨by rfl, fun W hW => ?y45⟩) hs38 ?_
            case y45 => go_simp
            try dsimp only [Act.put]
            try simp only [List.setIfInBounds_toArray, List.set_cons_zero, List.set_cons_succ]
            refine wpAnyH_take (i := 11) (oi := { dst := some 81, op := Op.extract (Operand.tmp 70) 1, type := 30, pos := "law.go:119", after := #[{ on := 9, ground := Ground.data }, { on := 13, ground := Ground.gcOnly Departure.lateStores }], guard := none }) (v := .int .i64 V) rfl (by kernel_rfl) (by kernel_rfl) (by kernel_rfl) (fun _ _ _ h => h) (Or.inl ⟨by rfl, fun W hW => ?y46⟩) hs38 ?_
            case y46 => go_simp
            try dsimp only [Act.put]
            try simp only [List.setIfInBounds_toArray, List.set_cons_zero, List.set_cons_succ]
            refine wpAnyH_ready (rs := [13]) (by kernel_rfl) (by simp) ?_
            refine AllReadyH.cons (o := { dst := none, op := Op.store 54 (Operand.tmp 19) (Operand.tmp 80), type := 0, pos := "law.go:119", after := #[{ on := 12, ground := Ground.data }, { on := 10, ground := Ground.data }, { on := 8, ground := Ground.chain }, { on := 0, ground := Ground.phase }, { on := 1, ground := Ground.phase }, { on := 2, ground := Ground.phase }, { on := 3, ground := Ground.phase }, { on := 4, ground := Ground.phase }, { on := 5, ground := Ground.phase }, { on := 6, ground := Ground.phase }, { on := 7, ground := Ground.phase }, { on := 8, ground := Ground.phase }, { on := 9, ground := Ground.phase }, { on := 10, ground := Ground.phase }, { on := 11, ground := Ground.textOnly Departure.lateStores }, { on := 12, ground := Ground.phase }], guard := none }) rfl (fun K hK => ?_) AllReadyH.nil
            rw [if_pos (by rfl)]
            have hne := gb31.out
            have hs9 := s2_row (b := Wd.heap.size) (c := (PR pq.first pq.size (.slice P33 nq p34) (.slice Q35 mq q36)).toArray) hs38 (by omega) (by omega)
            have PF := Lib.hid (ProofV.keep (W' := w32.setRow Wd.heap.size (PR pq.first pq.size (.slice P33 nq p34) (.slice Q35 mq q36)).toArray) pv40.out (Nat.le_trans pb41.out.size (by simp)) (fun k hk hb2 => (heap_setRow_other _ _ _ _ (by have h5 := b42.out; have h6 := od43.out; omega)).trans (pb41.out.block k hk)))
            have KE := Lib.hid (show BxT (w32.setRow Wd.heap.size (PR pq.first pq.size (.slice P33 nq p34) (.slice Q35 mq q36)).toArray) (Wd.heap.size) 54 pq P33 Q35 nq mq p34 q36 ∧ Below Ws.heap.size Ws (w32.setRow Wd.heap.size (PR pq.first pq.size (.slice P33 nq p34) (.slice Q35 mq q36)).toArray) from ⟨⟨z39.out.row _, pfAt_at PF.out HFq.out⟩, belowRow k37.out gb31.out _⟩)
            refine wp_store_row 54 (.tmp 19) (.tmp 80) rfl (Wd.heap.size) (PR pq.first pq.size (.slice P33 nq p34) (.slice Q35 mq q36)).toArray rfl rfl 54 _ (show (w32).heap[Wd.heap.size]? = _ from z39.out) (size54A _ _ _ _) (ZP_PR _ _ _ _) (PR_one _ _ _ _ _ _ _ _) ?_
            refine hK.out _ _ hs9 (fun _ => ?_)
            clear hK K
            try dsimp only [Act.put]
            try simp only [List.setIfInBounds_toArray, List.set_cons_zero, List.set_cons_succ]
            refine wpAnyH_ready (rs := [14]) (by kernel_rfl) (by simp) ?_
            refine AllReadyH.cons (o := { dst := some 20, op := Op.assign (Operand.tmp 81), type := 30, pos := "law.go:119", after := #[{ on := 11, ground := Ground.data }, { on := 13, ground := Ground.chain }, { on := 0, ground := Ground.phase }, { on := 1, ground := Ground.phase }, { on := 2, ground := Ground.phase }, { on := 3, ground := Ground.phase }, { on := 4, ground := Ground.phase }, { on := 5, ground := Ground.phase }, { on := 6, ground := Ground.phase }, { on := 7, ground := Ground.phase }, { on := 8, ground := Ground.phase }, { on := 9, ground := Ground.phase }, { on := 10, ground := Ground.phase }, { on := 11, ground := Ground.phase }, { on := 12, ground := Ground.phase }, { on := 13, ground := Ground.phase }], guard := none }) rfl (fun K hK => ?_) AllReadyH.nil
            rw [if_pos (by rfl)]
            go_simp
            refine hK.out _ _ hs9 (fun _ => ?_)
            clear hK K
            try dsimp only [Act.put]
            try simp only [List.setIfInBounds_toArray, List.set_cons_zero, List.set_cons_succ]
            refine wpAnyH_done (by kernel_rfl) ?_ _
            try dsimp only [Act.put]
            try simp only [List.setIfInBounds_toArray, List.set_cons_zero, List.set_cons_succ]
            go_wp2_with fail
            go_meet
            exact ⟨Wd.heap.size, P33, Q35, p34, q36, rfl, rfl, KE⟩
        case rest =>
          obtain ⟨g12, A112, A212, c112, c212, rfl, rfl, KE⟩ := hcut
          obtain ⟨w12, hw12⟩ : ∃ W, W = wc := ⟨_, rfl⟩
          rw [← hw12] at KE ⊢
          have X12 := Lib.hid KE.out.1
          have K12 := Lib.hid (KS.out.trans (KE.out.2.mono KS.out.size))
          have X11 := Lib.hid ((by rw [← hWs] at X11; exact X11.out : BxT Ws _ _ _ _ _ _ _ _ _).below KE.out.2)
          clear KE hw12 HS KS HSZ hgl7 hgk7 hWs
          go_upto_region 13 with fail
          obtain ⟨Ws, hWs⟩ : ∃ W, W = w12 := ⟨_, rfl⟩
          have KS := K12
          have HS := Lib.hid (show Ws.cell? ⟨gl, i, none⟩ = some (.slice A3 NL c3) ∧ Ws.cell? ⟨gk, j, none⟩ = some (.string KJ) from by rw [hWs]; exact ⟨(K12.out.cell (p := ⟨gl, i, none⟩) HGLT.out).trans HCE.out, (K12.out.cell (p := ⟨gk, j, none⟩) HGKT.out).trans HKE.out⟩)
          rw [← hWs] at KS ⊢
          have HSZ := Lib.hid KS.out.size
          have hgl7 : gl < Ws.heap.size := Nat.lt_of_lt_of_le HGLT.out KS.out.size
          have hgk7 : gk < Ws.heap.size := Nat.lt_of_lt_of_le HGKT.out KS.out.size
          go_cut [21, 22] from 53 to 130 (fun sb se wx => ∃ gb A1 A2 c1 c2, sb = .pointer (some ⟨gb, 0, none⟩) ∧ se = .int .i64 VR ∧ Hid (BxT wx gb 50 pr A1 A2 nr mr c1 c2 ∧ Below Ws.heap.size Ws wx))
          case first =>
            refine wp_region_held (S := fun W => W.cell? ⟨gl, i, none⟩ = some (.slice A3 NL c3) ∧ W.cell? ⟨gk, j, none⟩ = some (.string KJ)) (by kernel_rfl) ?_
            change wpAnyH _ _ _ _ _ _ _ _ (World.drew Ws)
            have k0 := Lib.hid (Below.refl Ws.heap.size Ws).drew
            have hs0 : (World.drew Ws).cell? ⟨gl, i, none⟩ = some (.slice A3 NL c3) ∧ (World.drew Ws).cell? ⟨gk, j, none⟩ = some (.string KJ) := HS.out
            generalize World.drew Ws = Wd at k0 hs0 ⊢
            refine wpAnyH_take (i := 0) (oi := { dst := some 83, op := Op.move (Operand.tmp 11), type := 27, pos := "law.go:120", after := #[], guard := none }) (v := .slice (some ⟨gl, 0, none⟩) 3 3) rfl (by kernel_rfl) (by kernel_rfl) (by kernel_rfl) (fun _ _ _ h => h) (Or.inl ⟨by rfl, fun W hW => ?y1⟩) hs0 ?_
            case y1 => go_simp
            try dsimp only [Act.put]
            try simp only [List.setIfInBounds_toArray, List.set_cons_zero, List.set_cons_succ]
            refine wpAnyH_take (i := 1) (oi := { dst := some 84, op := Op.move (Operand.tmp 12), type := 3, pos := "law.go:120", after := #[], guard := none }) (v := .int .i64 (i : Int)) rfl (by kernel_rfl) (by kernel_rfl) (by kernel_rfl) (fun _ _ _ h => h) (Or.inl ⟨by rfl, fun W hW => ?y2⟩) hs0 ?_
            case y2 => go_simp
            try dsimp only [Act.put]
            try simp only [List.setIfInBounds_toArray, List.set_cons_zero, List.set_cons_succ]
            refine wpAnyH_take (i := 2) (oi := { dst := some 85, op := Op.indexAddr 27 (Operand.tmp 83) (Operand.tmp 84), type := 0, pos := "law.go:120", after := #[{ on := 0, ground := Ground.data }, { on := 1, ground := Ground.data }], guard := none }) (v := .pointer (some ⟨gl, i, none⟩)) rfl (by kernel_rfl) (by kernel_rfl) (by kernel_rfl) (fun _ _ _ h => h) (Or.inl ⟨by rfl, fun W hW => ?y3⟩) hs0 ?_
            case y3 => go_simp
            try dsimp only [Act.put]
            try simp only [List.setIfInBounds_toArray, List.set_cons_zero, List.set_cons_succ]
            refine wpAnyH_take (i := 3) (oi := { dst := some 86, op := Op.load 24 (Operand.tmp 85), type := 24, pos := "law.go:120", after := #[{ on := 2, ground := Ground.data }], guard := none }) (v := .slice A3 NL c3) rfl (by kernel_rfl) (by kernel_rfl) (by kernel_rfl) (fun _ _ _ h => h) (Or.inl ⟨by rfl, fun W hW => by have hcl := hW.1; go_simp⟩) hs0 ?_
            try dsimp only [Act.put]
            try simp only [List.setIfInBounds_toArray, List.set_cons_zero, List.set_cons_succ]
            refine wpAnyH_take (i := 5) (oi := { dst := some 88, op := Op.move (Operand.tmp 13), type := 9, pos := "law.go:120", after := #[], guard := none }) (v := .string F) rfl (by kernel_rfl) (by kernel_rfl) (by kernel_rfl) (fun _ _ _ h => h) (Or.inl ⟨by rfl, fun W hW => ?y5⟩) hs0 ?_
            case y5 => go_simp
            try dsimp only [Act.put]
            try simp only [List.setIfInBounds_toArray, List.set_cons_zero, List.set_cons_succ]
            refine wpAnyH_take (i := 6) (oi := { dst := some 89, op := Op.move (Operand.tmp 15), type := 47, pos := "law.go:120", after := #[], guard := none }) (v := .slice (some ⟨gk, 0, none⟩) 3 3) rfl (by kernel_rfl) (by kernel_rfl) (by kernel_rfl) (fun _ _ _ h => h) (Or.inl ⟨by rfl, fun W hW => ?y6⟩) hs0 ?_
            case y6 => go_simp
            try dsimp only [Act.put]
            try simp only [List.setIfInBounds_toArray, List.set_cons_zero, List.set_cons_succ]
            refine wpAnyH_take (i := 7) (oi := { dst := some 90, op := Op.move (Operand.tmp 16), type := 3, pos := "law.go:120", after := #[], guard := none }) (v := .int .i64 (j : Int)) rfl (by kernel_rfl) (by kernel_rfl) (by kernel_rfl) (fun _ _ _ h => h) (Or.inl ⟨by rfl, fun W hW => ?y7⟩) hs0 ?_
            case y7 => go_simp
            try dsimp only [Act.put]
            try simp only [List.setIfInBounds_toArray, List.set_cons_zero, List.set_cons_succ]
            refine wpAnyH_take (i := 8) (oi := { dst := some 91, op := Op.indexAddr 47 (Operand.tmp 89) (Operand.tmp 90), type := 0, pos := "law.go:120", after := #[{ on := 6, ground := Ground.data }, { on := 7, ground := Ground.data }], guard := none }) (v := .pointer (some ⟨gk, j, none⟩)) rfl (by kernel_rfl) (by kernel_rfl) (by kernel_rfl) (fun _ _ _ h => h) (Or.inl ⟨by rfl, fun W hW => ?y8⟩) hs0 ?_
            case y8 => go_simp
            try dsimp only [Act.put]
            try simp only [List.setIfInBounds_toArray, List.set_cons_zero, List.set_cons_succ]
            refine wpAnyH_take (i := 9) (oi := { dst := some 92, op := Op.load 9 (Operand.tmp 91), type := 9, pos := "law.go:120", after := #[{ on := 8, ground := Ground.data }], guard := none }) (v := .string KJ) rfl (by kernel_rfl) (by kernel_rfl) (by kernel_rfl) (fun _ _ _ h => h) (Or.inl ⟨by rfl, fun W hW => by have hcl := hW.2; go_simp⟩) hs0 ?_
            try dsimp only [Act.put]
            try simp only [List.setIfInBounds_toArray, List.set_cons_zero, List.set_cons_succ]
            refine wpAnyH_ready (rs := [4, 14]) (by kernel_rfl) (by simp) ?_
            refine AllReadyH.cons (o := { dst := some 87, op := Op.call { callee := Callee.value (Operand.func 13), args := #[Operand.tmp 86], argTypes := #[24] }, type := 33, pos := "law.go:120", after := #[{ on := 3, ground := Ground.data }], guard := none }) rfl (fun K hK => ?_) (AllReadyH.cons (o := { dst := some 21, op := Op.alloc 50, type := 0, pos := "law.go:120", after := #[], guard := none }) rfl (fun K hK => ?_) AllReadyH.nil)
            · rw [if_pos (by rfl)]
              have HCC := HOWN.out Wd (KS.out.trans (k0.out.mono KS.out.size))
              go_simp
              refine HCC.mono ?_; rintro e w10 ⟨A11, c12, rfl, hls, hbt⟩
              clear HCC
              have k13 := Lib.hid (k0.out.trans (hbt.mono k0.out.size))
              have hs14 := s2_below hs0 hbt
              have o15 := Lib.hid hls
              clear hls hbt
              go_wp2_with fail
              refine hK.out _ _ hs14 (fun _ => ?_)
              clear hK K
              try dsimp only [Act.put]
              try simp only [List.setIfInBounds_toArray, List.set_cons_zero, List.set_cons_succ]
              refine wpAnyH_ready (rs := [10, 14]) (by kernel_rfl) (by simp) ?_
              refine AllReadyH.cons (o := { dst := some 93, op := Op.call { callee := Callee.value (Operand.func 24), args := #[Operand.tmp 87, Operand.tmp 88, Operand.tmp 92], argTypes := #[33, 9, 9] }, type := 51, pos := "law.go:120", after := #[{ on := 4, ground := Ground.data }, { on := 5, ground := Ground.data }, { on := 9, ground := Ground.data }, { on := 4, ground := Ground.chain }], guard := none }) rfl (fun K hK => ?_) (AllReadyH.cons (o := { dst := some 21, op := Op.alloc 50, type := 0, pos := "law.go:120", after := #[], guard := none }) rfl (fun K hK => ?_) AllReadyH.nil)
              · rw [if_pos (by rfl)]
                have HCC := HC13.out w10 A11 c12 (KS.out.trans (k13.out.mono KS.out.size)) o15.out
                go_simp
                refine HCC.mono ?_; rintro e w16 ⟨P17, p18, Q19, q20, rfl, hpv, hbt⟩
                clear HCC
                have k21 := Lib.hid (k13.out.trans (hbt.mono k13.out.size))
                have hs22 := s2_below hs14 hbt
                have o23 := Lib.hid ((o15.out.below hbt).more hbt.size)
                have pv24 := Lib.hid hpv
                have pb25 := Lib.hid (Below.refl w16.heap.size w16)
                have b26 := Lib.hid hbt.size
                clear hpv hbt
                go_wp2_with fail
                refine hK.out _ _ hs22 (fun _ => ?_)
                clear hK K
                try dsimp only [Act.put]
                try simp only [List.setIfInBounds_toArray, List.set_cons_zero, List.set_cons_succ]
                refine wpAnyH_take (i := 11) (oi := { dst := some 82, op := Op.move (Operand.tmp 93), type := 51, pos := "law.go:120", after := #[{ on := 10, ground := Ground.data }], guard := none }) (v := .tuple #[.agg (PR pr.first pr.size (.slice P17 nr p18) (.slice Q19 mr q20)).toArray, .int .i64 VR]) rfl (by kernel_rfl) (by kernel_rfl) (by kernel_rfl) (fun _ _ _ h => h) (Or.inl ⟨by rfl, fun W hW => ?y27⟩) hs22 ?_
                case y27 => go_simp
                try dsimp only [Act.put]
                try simp only [List.setIfInBounds_toArray, List.set_cons_zero, List.set_cons_succ]
                refine wpAnyH_take (i := 12) (oi := { dst := some 94, op := Op.extract (Operand.tmp 82) 0, type := 50, pos := "law.go:120", after := #[{ on := 11, ground := Ground.data }], guard := none }) (v := .agg (PR pr.first pr.size (.slice P17 nr p18) (.slice Q19 mr q20)).toArray) rfl (by kernel_rfl) (by kernel_rfl) (by kernel_rfl) (fun _ _ _ h => h) (Or.inl ⟨by rfl, fun W hW => ?y28⟩) hs22 ?_
                case y28 => go_simp
                try dsimp only [Act.put]
                try simp only [List.setIfInBounds_toArray, List.set_cons_zero, List.set_cons_succ]
                refine wpAnyH_take (i := 13) (oi := { dst := some 95, op := Op.extract (Operand.tmp 82) 1, type := 30, pos := "law.go:120", after := #[{ on := 11, ground := Ground.data }, { on := 15, ground := Ground.gcOnly Departure.lateStores }], guard := none }) (v := .int .i64 VR) rfl (by kernel_rfl) (by kernel_rfl) (by kernel_rfl) (fun _ _ _ h => h) (Or.inl ⟨by rfl, fun W hW => ?y29⟩) hs22 ?_
                case y29 => go_simp
                try dsimp only [Act.put]
                try simp only [List.setIfInBounds_toArray, List.set_cons_zero, List.set_cons_succ]
                refine wpAnyH_ready (rs := [14]) (by kernel_rfl) (by simp) ?_
                refine AllReadyH.cons (o := { dst := some 21, op := Op.alloc 50, type := 0, pos := "law.go:120", after := #[], guard := none }) rfl (fun K hK => ?_) AllReadyH.nil
                rw [if_pos (by rfl)]
                have od36 := Lib.hid (show w16.heap.size ≤ w16.heap.size from pb25.out.size)
                have hbt := (Below.refl w16.heap.size w16).alloc (Nat.le_refl _) (.cells ZP.toArray 50)
                have k30 := Lib.hid (k21.out.trans (hbt.mono k21.out.size))
                have hs31 := s2_below hs22 hbt
                have o32 := Lib.hid ((o23.out.below hbt).more hbt.size)
                have pb33 := Lib.hid (pb25.out.trans (hbt.mono pb25.out.size))
                have z34 := Lib.hid (Blk.new w16 50 ZP)
                have gb35 := Lib.hid (k21.out.size)
                clear hbt
                go_simp
                refine hK.out _ _ hs31 (fun _ => ?_)
                clear hK K
                try dsimp only [Act.put]
                try simp only [List.setIfInBounds_toArray, List.set_cons_zero, List.set_cons_succ]
                refine wpAnyH_ready (rs := [15]) (by kernel_rfl) (by simp) ?_
                refine AllReadyH.cons (o := { dst := none, op := Op.store 50 (Operand.tmp 21) (Operand.tmp 94), type := 0, pos := "law.go:120", after := #[{ on := 14, ground := Ground.data }, { on := 12, ground := Ground.data }, { on := 10, ground := Ground.chain }, { on := 0, ground := Ground.phase }, { on := 1, ground := Ground.phase }, { on := 2, ground := Ground.phase }, { on := 3, ground := Ground.phase }, { on := 4, ground := Ground.phase }, { on := 5, ground := Ground.phase }, { on := 6, ground := Ground.phase }, { on := 7, ground := Ground.phase }, { on := 8, ground := Ground.phase }, { on := 9, ground := Ground.phase }, { on := 10, ground := Ground.phase }, { on := 11, ground := Ground.phase }, { on := 12, ground := Ground.phase }, { on := 13, ground := Ground.textOnly Departure.lateStores }, { on := 14, ground := Ground.phase }], guard := none }) rfl (fun K hK => ?_) AllReadyH.nil
                rw [if_pos (by rfl)]
                have hne := gb35.out
                have hs9 := s2_row (b := w16.heap.size) (c := (PR pr.first pr.size (.slice P17 nr p18) (.slice Q19 mr q20)).toArray) hs31 (by omega) (by omega)
                have PF := Lib.hid (ProofV.keep (W' := (w16.alloc (.cells ZP.toArray 50)).setRow w16.heap.size (PR pr.first pr.size (.slice P17 nr p18) (.slice Q19 mr q20)).toArray) pv24.out (Nat.le_trans pb33.out.size (by simp)) (fun k hk hb2 => (heap_setRow_other _ _ _ _ (by have h5 := b26.out; have h6 := od36.out; omega)).trans (pb33.out.block k hk)))
                have KE := Lib.hid (show BxT ((w16.alloc (.cells ZP.toArray 50)).setRow w16.heap.size (PR pr.first pr.size (.slice P17 nr p18) (.slice Q19 mr q20)).toArray) (w16.heap.size) 50 pr P17 Q19 nr mr p18 q20 ∧ Below Ws.heap.size Ws ((w16.alloc (.cells ZP.toArray 50)).setRow w16.heap.size (PR pr.first pr.size (.slice P17 nr p18) (.slice Q19 mr q20)).toArray) from ⟨⟨z34.out.row _, pfAt_at PF.out HFr.out⟩, belowRow k30.out gb35.out _⟩)
                refine wp_store_row 50 (.tmp 21) (.tmp 94) rfl (w16.heap.size) (PR pr.first pr.size (.slice P17 nr p18) (.slice Q19 mr q20)).toArray rfl rfl 50 _ (show ((w16.alloc (.cells ZP.toArray 50))).heap[w16.heap.size]? = _ from z34.out) (size50A _ _ _ _) (ZP_PR _ _ _ _) (PR_one _ _ _ _ _ _ _ _) ?_
                refine hK.out _ _ hs9 (fun _ => ?_)
                clear hK K
                try dsimp only [Act.put]
                try simp only [List.setIfInBounds_toArray, List.set_cons_zero, List.set_cons_succ]
                refine wpAnyH_ready (rs := [16]) (by kernel_rfl) (by simp) ?_
                refine AllReadyH.cons (o := { dst := some 22, op := Op.assign (Operand.tmp 95), type := 30, pos := "law.go:120", after := #[{ on := 13, ground := Ground.data }, { on := 15, ground := Ground.chain }, { on := 0, ground := Ground.phase }, { on := 1, ground := Ground.phase }, { on := 2, ground := Ground.phase }, { on := 3, ground := Ground.phase }, { on := 4, ground := Ground.phase }, { on := 5, ground := Ground.phase }, { on := 6, ground := Ground.phase }, { on := 7, ground := Ground.phase }, { on := 8, ground := Ground.phase }, { on := 9, ground := Ground.phase }, { on := 10, ground := Ground.phase }, { on := 11, ground := Ground.phase }, { on := 12, ground := Ground.phase }, { on := 13, ground := Ground.phase }, { on := 14, ground := Ground.phase }, { on := 15, ground := Ground.phase }], guard := none }) rfl (fun K hK => ?_) AllReadyH.nil
                rw [if_pos (by rfl)]
                go_simp
                refine hK.out _ _ hs9 (fun _ => ?_)
                clear hK K
                try dsimp only [Act.put]
                try simp only [List.setIfInBounds_toArray, List.set_cons_zero, List.set_cons_succ]
                refine wpAnyH_done (by kernel_rfl) ?_ _
                try dsimp only [Act.put]
                try simp only [List.setIfInBounds_toArray, List.set_cons_zero, List.set_cons_succ]
                go_wp2_with fail
                go_meet
                exact ⟨w16.heap.size, P17, Q19, p18, q20, rfl, rfl, KE⟩
              · rw [if_pos (by rfl)]
                have hbt := (Below.refl w10.heap.size w10).alloc (Nat.le_refl _) (.cells ZP.toArray 50)
                have k37 := Lib.hid (k13.out.trans (hbt.mono k13.out.size))
                have hs38 := s2_below hs14 hbt
                have o39 := Lib.hid ((o15.out.below hbt).more hbt.size)
                have z40 := Lib.hid (Blk.new w10 50 ZP)
                have gb41 := Lib.hid (k13.out.size)
                clear hbt
                go_simp
                refine hK.out _ _ hs38 (fun _ => ?_)
                clear hK K
                try dsimp only [Act.put]
                try simp only [List.setIfInBounds_toArray, List.set_cons_zero, List.set_cons_succ]
                refine wpAnyH_ready (rs := [10]) (by kernel_rfl) (by simp) ?_
                refine AllReadyH.cons (o := { dst := some 93, op := Op.call { callee := Callee.value (Operand.func 24), args := #[Operand.tmp 87, Operand.tmp 88, Operand.tmp 92], argTypes := #[33, 9, 9] }, type := 51, pos := "law.go:120", after := #[{ on := 4, ground := Ground.data }, { on := 5, ground := Ground.data }, { on := 9, ground := Ground.data }, { on := 4, ground := Ground.chain }], guard := none }) rfl (fun K hK => ?_) AllReadyH.nil
                rw [if_pos (by rfl)]
                have od54 := Lib.hid (show w10.heap.size < (w10.alloc (.cells ZP.toArray 50)).heap.size from z40.out.lt)
                have HCC := HC13.out (w10.alloc (.cells ZP.toArray 50)) A11 c12 (KS.out.trans (k37.out.mono KS.out.size)) o39.out
                go_simp
                refine HCC.mono ?_; rintro e w42 ⟨P43, p44, Q45, q46, rfl, hpv, hbt⟩
                clear HCC
                have k47 := Lib.hid (k37.out.trans (hbt.mono k37.out.size))
                have hs48 := s2_below hs38 hbt
                have o49 := Lib.hid ((o39.out.below hbt).more hbt.size)
                have z50 := Lib.hid (z40.out.below hbt z40.out.lt)
                have pv51 := Lib.hid hpv
                have pb52 := Lib.hid (Below.refl w42.heap.size w42)
                have b53 := Lib.hid hbt.size
                clear hpv hbt
                go_wp2_with fail
                refine hK.out _ _ hs48 (fun _ => ?_)
                clear hK K
                try dsimp only [Act.put]
                try simp only [List.setIfInBounds_toArray, List.set_cons_zero, List.set_cons_succ]
                refine wpAnyH_take (i := 11) (oi := { dst := some 82, op := Op.move (Operand.tmp 93), type := 51, pos := "law.go:120", after := #[{ on := 10, ground := Ground.data }], guard := none }) (v := .tuple #[.agg (PR pr.first pr.size (.slice P43 nr p44) (.slice Q45 mr q46)).toArray, .int .i64 VR]) rfl (by kernel_rfl) (by kernel_rfl) (by kernel_rfl) (fun _ _ _ h => h) (Or.inl ⟨by rfl, fun W hW => ?y55⟩) hs48 ?_
                case y55 => go_simp
                try dsimp only [Act.put]
                try simp only [List.setIfInBounds_toArray, List.set_cons_zero, List.set_cons_succ]
                refine wpAnyH_take (i := 12) (oi := { dst := some 94, op := Op.extract (Operand.tmp 82) 0, type := 50, pos := "law.go:120", after := #[{ on := 11, ground := Ground.data }], guard := none }) (v := .agg (PR pr.first pr.size (.slice P43 nr p44) (.slice Q45 mr q46)).toArray) rfl (by kernel_rfl) (by kernel_rfl) (by kernel_rfl) (fun _ _ _ h => h) (Or.inl ⟨by rfl, fun W hW => ?y56⟩) hs48 ?_
                case y56 => go_simp
                try dsimp only [Act.put]
                try simp only [List.setIfInBounds_toArray, List.set_cons_zero, List.set_cons_succ]
                refine wpAnyH_take (i := 13) (oi := { dst := some 95, op := Op.extract (Operand.tmp 82) 1, type := 30, pos := "law.go:120", after := #[{ on := 11, ground := Ground.data }, { on := 15, ground := Ground.gcOnly Departure.lateStores }], guard := none }) (v := .int .i64 VR) rfl (by kernel_rfl) (by kernel_rfl) (by kernel_rfl) (fun _ _ _ h => h) (Or.inl ⟨by rfl, fun W hW => ?y57⟩) hs48 ?_
                case y57 => go_simp
                try dsimp only [Act.put]
                try simp only [List.setIfInBounds_toArray, List.set_cons_zero, List.set_cons_succ]
                refine wpAnyH_ready (rs := [15]) (by kernel_rfl) (by simp) ?_
                refine AllReadyH.cons (o := { dst := none, op := Op.store 50 (Operand.tmp 21) (Operand.tmp 94), type := 0, pos := "law.go:120", after := #[{ on := 14, ground := Ground.data }, { on := 12, ground := Ground.data }, { on := 10, ground := Ground.chain }, { on := 0, ground := Ground.phase }, { on := 1, ground := Ground.phase }, { on := 2, ground := Ground.phase }, { on := 3, ground := Ground.phase }, { on := 4, ground := Ground.phase }, { on := 5, ground := Ground.phase }, { on := 6, ground := Ground.phase }, { on := 7, ground := Ground.phase }, { on := 8, ground := Ground.phase }, { on := 9, ground := Ground.phase }, { on := 10, ground := Ground.phase }, { on := 11, ground := Ground.phase }, { on := 12, ground := Ground.phase }, { on := 13, ground := Ground.textOnly Departure.lateStores }, { on := 14, ground := Ground.phase }], guard := none }) rfl (fun K hK => ?_) AllReadyH.nil
                rw [if_pos (by rfl)]
                have hne := gb41.out
                have hs9 := s2_row (b := w10.heap.size) (c := (PR pr.first pr.size (.slice P43 nr p44) (.slice Q45 mr q46)).toArray) hs48 (by omega) (by omega)
                have PF := Lib.hid (ProofV.keep (W' := w42.setRow w10.heap.size (PR pr.first pr.size (.slice P43 nr p44) (.slice Q45 mr q46)).toArray) pv51.out (Nat.le_trans pb52.out.size (by simp)) (fun k hk hb2 => (heap_setRow_other _ _ _ _ (by have h5 := b53.out; have h6 := od54.out; omega)).trans (pb52.out.block k hk)))
                have KE := Lib.hid (show BxT (w42.setRow w10.heap.size (PR pr.first pr.size (.slice P43 nr p44) (.slice Q45 mr q46)).toArray) (w10.heap.size) 50 pr P43 Q45 nr mr p44 q46 ∧ Below Ws.heap.size Ws (w42.setRow w10.heap.size (PR pr.first pr.size (.slice P43 nr p44) (.slice Q45 mr q46)).toArray) from ⟨⟨z50.out.row _, pfAt_at PF.out HFr.out⟩, belowRow k47.out gb41.out _⟩)
                refine wp_store_row 50 (.tmp 21) (.tmp 94) rfl (w10.heap.size) (PR pr.first pr.size (.slice P43 nr p44) (.slice Q45 mr q46)).toArray rfl rfl 50 _ (show (w42).heap[w10.heap.size]? = _ from z50.out) (size50A _ _ _ _) (ZP_PR _ _ _ _) (PR_one _ _ _ _ _ _ _ _) ?_
                refine hK.out _ _ hs9 (fun _ => ?_)
                clear hK K
                try dsimp only [Act.put]
                try simp only [List.setIfInBounds_toArray, List.set_cons_zero, List.set_cons_succ]
                refine wpAnyH_ready (rs := [16]) (by kernel_rfl) (by simp) ?_
                refine AllReadyH.cons (o := { dst := some 22, op := Op.assign (Operand.tmp 95), type := 30, pos := "law.go:120", after := #[{ on := 13, ground := Ground.data }, { on := 15, ground := Ground.chain }, { on := 0, ground := Ground.phase }, { on := 1, ground := Ground.phase }, { on := 2, ground := Ground.phase }, { on := 3, ground := Ground.phase }, { on := 4, ground := Ground.phase }, { on := 5, ground := Ground.phase }, { on := 6, ground := Ground.phase }, { on := 7, ground := Ground.phase }, { on := 8, ground := Ground.phase }, { on := 9, ground := Ground.phase }, { on := 10, ground := Ground.phase }, { on := 11, ground := Ground.phase }, { on := 12, ground := Ground.phase }, { on := 13, ground := Ground.phase }, { on := 14, ground := Ground.phase }, { on := 15, ground := Ground.phase }], guard := none }) rfl (fun K hK => ?_) AllReadyH.nil
                rw [if_pos (by rfl)]
                go_simp
                refine hK.out _ _ hs9 (fun _ => ?_)
                clear hK K
                try dsimp only [Act.put]
                try simp only [List.setIfInBounds_toArray, List.set_cons_zero, List.set_cons_succ]
                refine wpAnyH_done (by kernel_rfl) ?_ _
                try dsimp only [Act.put]
                try simp only [List.setIfInBounds_toArray, List.set_cons_zero, List.set_cons_succ]
                go_wp2_with fail
                go_meet
                exact ⟨w10.heap.size, P43, Q45, p44, q46, rfl, rfl, KE⟩
            · rw [if_pos (by rfl)]
              have hbt := (Below.refl Wd.heap.size Wd).alloc (Nat.le_refl _) (.cells ZP.toArray 50)
              have k58 := Lib.hid (k0.out.trans (hbt.mono k0.out.size))
              have hs59 := s2_below hs0 hbt
              have z60 := Lib.hid (Blk.new Wd 50 ZP)
              have gb61 := Lib.hid (k0.out.size)
              clear hbt
              go_simp
              refine hK.out _ _ hs59 (fun _ => ?_)
              clear hK K
              try dsimp only [Act.put]
              try simp only [List.setIfInBounds_toArray, List.set_cons_zero, List.set_cons_succ]
              refine wpAnyH_ready (rs := [4]) (by kernel_rfl) (by simp) ?_
              refine AllReadyH.cons (o := { dst := some 87, op := Op.call { callee := Callee.value (Operand.func 13), args := #[Operand.tmp 86], argTypes := #[24] }, type := 33, pos := "law.go:120", after := #[{ on := 3, ground := Ground.data }], guard := none }) rfl (fun K hK => ?_) AllReadyH.nil
              rw [if_pos (by rfl)]
              have HCC := HOWN.out (Wd.alloc (.cells ZP.toArray 50)) (KS.out.trans (k58.out.mono KS.out.size))
              go_simp
              refine HCC.mono ?_; rintro e w62 ⟨A63, c64, rfl, hls, hbt⟩
              clear HCC
              have k65 := Lib.hid (k58.out.trans (hbt.mono k58.out.size))
              have hs66 := s2_below hs59 hbt
              have z67 := Lib.hid (z60.out.below hbt z60.out.lt)
              have o68 := Lib.hid hls
              clear hls hbt
              go_wp2_with fail
              refine hK.out _ _ hs66 (fun _ => ?_)
              clear hK K
              try dsimp only [Act.put]
              try simp only [List.setIfInBounds_toArray, List.set_cons_zero, List.set_cons_succ]
              refine wpAnyH_ready (rs := [10]) (by kernel_rfl) (by simp) ?_
              refine AllReadyH.cons (o := { dst := some 93, op := Op.call { callee := Callee.value (Operand.func 24), args := #[Operand.tmp 87, Operand.tmp 88, Operand.tmp 92], argTypes := #[33, 9, 9] }, type := 51, pos := "law.go:120", after := #[{ on := 4, ground := Ground.data }, { on := 5, ground := Ground.data }, { on := 9, ground := Ground.data }, { on := 4, ground := Ground.chain }], guard := none }) rfl (fun K hK => ?_) AllReadyH.nil
              rw [if_pos (by rfl)]
              have od81 := Lib.hid (show Wd.heap.size < w62.heap.size from z67.out.lt)
              have HCC := HC13.out w62 A63 c64 (KS.out.trans (k65.out.mono KS.out.size)) o68.out
              go_simp
              refine HCC.mono ?_; rintro e w69 ⟨P70, p71, Q72, q73, rfl, hpv, hbt⟩
              clear HCC
              have k74 := Lib.hid (k65.out.trans (hbt.mono k65.out.size))
              have hs75 := s2_below hs66 hbt
              have o76 := Lib.hid ((o68.out.below hbt).more hbt.size)
              have z77 := Lib.hid (z67.out.below hbt z67.out.lt)
              have pv78 := Lib.hid hpv
              have pb79 := Lib.hid (Below.refl w69.heap.size w69)
              have b80 := Lib.hid hbt.size
              clear hpv hbt
              go_wp2_with fail
              refine hK.out _ _ hs75 (fun _ => ?_)
              clear hK K
              try dsimp only [Act.put]
              try simp only [List.setIfInBounds_toArray, List.set_cons_zero, List.set_cons_succ]
              refine wpAnyH_take (i := 11) (oi := { dst := some 82, op := Op.move (Operand.tmp 93), type := 51, pos := "law.go:120", after := #[{ on := 10, ground := Ground.data }], guard := none }) (v := .tuple #[.agg (PR pr.first pr.size (.slice P70 nr p71) (.slice Q72 mr q73)).toArray, .int .i64 VR]) rfl (by kernel_rfl) (by kernel_rfl) (by kernel_rfl) (fun _ _ _ h => h) (Or.inl ⟨by rfl, fun W hW => ?y82⟩) hs75 ?_
              case y82 => go_simp
              try dsimp only [Act.put]
              try simp only [List.setIfInBounds_toArray, List.set_cons_zero, List.set_cons_succ]
              refine wpAnyH_take (i := 12) (oi := { dst := some 94, op := Op.extract (Operand.tmp 82) 0, type := 50, pos := "law.go:120", after := #[{ on := 11, ground := Ground.data }], guard := none }) (v := .agg (PR pr.first pr.size (.slice P70 nr p71) (.slice Q72 mr q73)).toArray) rfl (by kernel_rfl) (by kernel_rfl) (by kernel_rfl) (fun _ _ _ h => h) (Or.inl ⟨by rfl, fun W hW => ?y83⟩) hs75 ?_
              case y83 => go_simp
              try dsimp only [Act.put]
              try simp only [List.setIfInBounds_toArray, List.set_cons_zero, List.set_cons_succ]
              refine wpAnyH_take (i := 13) (oi := { dst := some 95, op := Op.extract (Operand.tmp 82) 1, type := 30, pos := "law.go:120", after := #[{ on := 11, ground := Ground.data }, { on := 15, ground := Ground.gcOnly Departure.lateStores }], guard := none }) (v := .int .i64 VR) rfl (by kernel_rfl) (by kernel_rfl) (by kernel_rfl) (fun _ _ _ h => h) (Or.inl ⟨by rfl, fun W hW => ?y84⟩) hs75 ?_
              case y84 => go_simp
              try dsimp only [Act.put]
              try simp only [List.setIfInBounds_toArray, List.set_cons_zero, List.set_cons_succ]
              refine wpAnyH_ready (rs := [15]) (by kernel_rfl) (by simp) ?_
              refine AllReadyH.cons (o := { dst := none, op := Op.store 50 (Operand.tmp 21) (Operand.tmp 94), type := 0, pos := "law.go:120", after := #[{ on := 14, ground := Ground.data }, { on := 12, ground := Ground.data }, { on := 10, ground := Ground.chain }, { on := 0, ground := Ground.phase }, { on := 1, ground := Ground.phase }, { on := 2, ground := Ground.phase }, { on := 3, ground := Ground.phase }, { on := 4, ground := Ground.phase }, { on := 5, ground := Ground.phase }, { on := 6, ground := Ground.phase }, { on := 7, ground := Ground.phase }, { on := 8, ground := Ground.phase }, { on := 9, ground := Ground.phase }, { on := 10, ground := Ground.phase }, { on := 11, ground := Ground.phase }, { on := 12, ground := Ground.phase }, { on := 13, ground := Ground.textOnly Departure.lateStores }, { on := 14, ground := Ground.phase }], guard := none }) rfl (fun K hK => ?_) AllReadyH.nil
              rw [if_pos (by rfl)]
              have hne := gb61.out
              have hs9 := s2_row (b := Wd.heap.size) (c := (PR pr.first pr.size (.slice P70 nr p71) (.slice Q72 mr q73)).toArray) hs75 (by omega) (by omega)
              have PF := Lib.hid (ProofV.keep (W' := w69.setRow Wd.heap.size (PR pr.first pr.size (.slice P70 nr p71) (.slice Q72 mr q73)).toArray) pv78.out (Nat.le_trans pb79.out.size (by simp)) (fun k hk hb2 => (heap_setRow_other _ _ _ _ (by have h5 := b80.out; have h6 := od81.out; omega)).trans (pb79.out.block k hk)))
              have KE := Lib.hid (show BxT (w69.setRow Wd.heap.size (PR pr.first pr.size (.slice P70 nr p71) (.slice Q72 mr q73)).toArray) (Wd.heap.size) 50 pr P70 Q72 nr mr p71 q73 ∧ Below Ws.heap.size Ws (w69.setRow Wd.heap.size (PR pr.first pr.size (.slice P70 nr p71) (.slice Q72 mr q73)).toArray) from ⟨⟨z77.out.row _, pfAt_at PF.out HFr.out⟩, belowRow k74.out gb61.out _⟩)
              refine wp_store_row 50 (.tmp 21) (.tmp 94) rfl (Wd.heap.size) (PR pr.first pr.size (.slice P70 nr p71) (.slice Q72 mr q73)).toArray rfl rfl 50 _ (show (w69).heap[Wd.heap.size]? = _ from z77.out) (size50A _ _ _ _) (ZP_PR _ _ _ _) (PR_one _ _ _ _ _ _ _ _) ?_
              refine hK.out _ _ hs9 (fun _ => ?_)
              clear hK K
              try dsimp only [Act.put]
              try simp only [List.setIfInBounds_toArray, List.set_cons_zero, List.set_cons_succ]
              refine wpAnyH_ready (rs := [16]) (by kernel_rfl) (by simp) ?_
              refine AllReadyH.cons (o := { dst := some 22, op := Op.assign (Operand.tmp 95), type := 30, pos := "law.go:120", after := #[{ on := 13, ground := Ground.data }, { on := 15, ground := Ground.chain }, { on := 0, ground := Ground.phase }, { on := 1, ground := Ground.phase }, { on := 2, ground := Ground.phase }, { on := 3, ground := Ground.phase }, { on := 4, ground := Ground.phase }, { on := 5, ground := Ground.phase }, { on := 6, ground := Ground.phase }, { on := 7, ground := Ground.phase }, { on := 8, ground := Ground.phase }, { on := 9, ground := Ground.phase }, { on := 10, ground := Ground.phase }, { on := 11, ground := Ground.phase }, { on := 12, ground := Ground.phase }, { on := 13, ground := Ground.phase }, { on := 14, ground := Ground.phase }, { on := 15, ground := Ground.phase }], guard := none }) rfl (fun K hK => ?_) AllReadyH.nil
              rw [if_pos (by rfl)]
              go_simp
              refine hK.out _ _ hs9 (fun _ => ?_)
              clear hK K
              try dsimp only [Act.put]
              try simp only [List.setIfInBounds_toArray, List.set_cons_zero, List.set_cons_succ]
              refine wpAnyH_done (by kernel_rfl) ?_ _
              try dsimp only [Act.put]
              try simp only [List.setIfInBounds_toArray, List.set_cons_zero, List.set_cons_succ]
              go_wp2_with fail
              go_meet
              exact ⟨Wd.heap.size, P70, Q72, p71, q73, rfl, rfl, KE⟩
          case rest =>
            obtain ⟨g13, A113, A213, c113, c213, rfl, rfl, KE⟩ := hcut
            obtain ⟨w13, hw13⟩ : ∃ W, W = wc := ⟨_, rfl⟩
            rw [← hw13] at KE ⊢
            have X13 := Lib.hid KE.out.1
            have K13 := Lib.hid (KS.out.trans (KE.out.2.mono KS.out.size))
            have X11 := Lib.hid ((by rw [← hWs] at X11; exact X11.out : BxT Ws _ _ _ _ _ _ _ _ _).below KE.out.2)
            have X12 := Lib.hid ((by rw [← hWs] at X12; exact X12.out : BxT Ws _ _ _ _ _ _ _ _ _).below KE.out.2)
            clear KE hw13 HS KS HSZ hgl7 hgk7 hWs
            go_upto_region 14 with fail
            obtain ⟨Ws, hWs⟩ : ∃ W, W = w13 := ⟨_, rfl⟩
            have KS := K13
            have HS := Lib.hid (show Ws.cell? ⟨gl, i, none⟩ = some (.slice A3 NL c3) ∧ Ws.cell? ⟨gk, j, none⟩ = some (.string KJ) from by rw [hWs]; exact ⟨(K13.out.cell (p := ⟨gl, i, none⟩) HGLT.out).trans HCE.out, (K13.out.cell (p := ⟨gk, j, none⟩) HGKT.out).trans HKE.out⟩)
            rw [← hWs] at KS ⊢
            have HSZ := Lib.hid KS.out.size
            have hgl7 : gl < Ws.heap.size := Nat.lt_of_lt_of_le HGLT.out KS.out.size
            have hgk7 : gk < Ws.heap.size := Nat.lt_of_lt_of_le HGKT.out KS.out.size
            go_cut [23, 24] from 53 to 130 (fun sb se wx => ∃ gb A1 A2 c1 c2, sb = .pointer (some ⟨gb, 0, none⟩) ∧ se = .int .i64 VR ∧ Hid (BxT wx gb 54 pr A1 A2 nr mr c1 c2 ∧ Below Ws.heap.size Ws wx))
            case first =>
              refine wp_region_held (S := fun W => W.cell? ⟨gl, i, none⟩ = some (.slice A3 NL c3) ∧ W.cell? ⟨gk, j, none⟩ = some (.string KJ)) (by kernel_rfl) ?_
              change wpAnyH _ _ _ _ _ _ _ _ (World.drew Ws)
              have k0 := Lib.hid (Below.refl Ws.heap.size Ws).drew
              have hs0 : (World.drew Ws).cell? ⟨gl, i, none⟩ = some (.slice A3 NL c3) ∧ (World.drew Ws).cell? ⟨gk, j, none⟩ = some (.string KJ) := HS.out
              generalize World.drew Ws = Wd at k0 hs0 ⊢
              refine wpAnyH_take (i := 0) (oi := { dst := some 97, op := Op.move (Operand.tmp 11), type := 27, pos := "law.go:121", after := #[], guard := none }) (v := .slice (some ⟨gl, 0, none⟩) 3 3) rfl (by kernel_rfl) (by kernel_rfl) (by kernel_rfl) (fun _ _ _ h => h) (Or.inl ⟨by rfl, fun W hW => ?y1⟩) hs0 ?_
              case y1 => go_simp
              try dsimp only [Act.put]
              try simp only [List.setIfInBounds_toArray, List.set_cons_zero, List.set_cons_succ]
              refine wpAnyH_take (i := 1) (oi := { dst := some 98, op := Op.move (Operand.tmp 12), type := 3, pos := "law.go:121", after := #[], guard := none }) (v := .int .i64 (i : Int)) rfl (by kernel_rfl) (by kernel_rfl) (by kernel_rfl) (fun _ _ _ h => h) (Or.inl ⟨by rfl, fun W hW => ?y2⟩) hs0 ?_
              case y2 => go_simp
              try dsimp only [Act.put]
              try simp only [List.setIfInBounds_toArray, List.set_cons_zero, List.set_cons_succ]
              refine wpAnyH_take (i := 2) (oi := { dst := some 99, op := Op.indexAddr 27 (Operand.tmp 97) (Operand.tmp 98), type := 0, pos := "law.go:121", after := #[{ on := 0, ground := Ground.data }, { on := 1, ground := Ground.data }], guard := none }) (v := .pointer (some ⟨gl, i, none⟩)) rfl (by kernel_rfl) (by kernel_rfl) (by kernel_rfl) (fun _ _ _ h => h) (Or.inl ⟨by rfl, fun W hW => ?y3⟩) hs0 ?_
              case y3 => go_simp
              try dsimp only [Act.put]
              try simp only [List.setIfInBounds_toArray, List.set_cons_zero, List.set_cons_succ]
              refine wpAnyH_take (i := 3) (oi := { dst := some 100, op := Op.load 24 (Operand.tmp 99), type := 24, pos := "law.go:121", after := #[{ on := 2, ground := Ground.data }], guard := none }) (v := .slice A3 NL c3) rfl (by kernel_rfl) (by kernel_rfl) (by kernel_rfl) (fun _ _ _ h => h) (Or.inl ⟨by rfl, fun W hW => by have hcl := hW.1; go_simp⟩) hs0 ?_
              try dsimp only [Act.put]
              try simp only [List.setIfInBounds_toArray, List.set_cons_zero, List.set_cons_succ]
              refine wpAnyH_take (i := 4) (oi := { dst := some 101, op := Op.move (Operand.tmp 13), type := 9, pos := "law.go:121", after := #[], guard := none }) (v := .string F) rfl (by kernel_rfl) (by kernel_rfl) (by kernel_rfl) (fun _ _ _ h => h) (Or.inl ⟨by rfl, fun W hW => ?y5⟩) hs0 ?_
              case y5 => go_simp
              try dsimp only [Act.put]
              try simp only [List.setIfInBounds_toArray, List.set_cons_zero, List.set_cons_succ]
              refine wpAnyH_take (i := 5) (oi := { dst := some 102, op := Op.move (Operand.tmp 15), type := 47, pos := "law.go:121", after := #[], guard := none }) (v := .slice (some ⟨gk, 0, none⟩) 3 3) rfl (by kernel_rfl) (by kernel_rfl) (by kernel_rfl) (fun _ _ _ h => h) (Or.inl ⟨by rfl, fun W hW => ?y6⟩) hs0 ?_
              case y6 => go_simp
              try dsimp only [Act.put]
              try simp only [List.setIfInBounds_toArray, List.set_cons_zero, List.set_cons_succ]
              refine wpAnyH_take (i := 6) (oi := { dst := some 103, op := Op.move (Operand.tmp 16), type := 3, pos := "law.go:121", after := #[], guard := none }) (v := .int .i64 (j : Int)) rfl (by kernel_rfl) (by kernel_rfl) (by kernel_rfl) (fun _ _ _ h => h) (Or.inl ⟨by rfl, fun W hW => ?y7⟩) hs0 ?_
              case y7 => go_simp
              try dsimp only [Act.put]
              try simp only [List.setIfInBounds_toArray, List.set_cons_zero, List.set_cons_succ]
              refine wpAnyH_take (i := 7) (oi := { dst := some 104, op := Op.indexAddr 47 (Operand.tmp 102) (Operand.tmp 103), type := 0, pos := "law.go:121", after := #[{ on := 5, ground := Ground.data }, { on := 6, ground := Ground.data }], guard := none }) (v := .pointer (some ⟨gk, j, none⟩)) rfl (by kernel_rfl) (by kernel_rfl) (by kernel_rfl) (fun _ _ _ h => h) (Or.inl ⟨by rfl, fun W hW => ?y8⟩) hs0 ?_
              case y8 => go_simp
              try dsimp only [Act.put]
              try simp only [List.setIfInBounds_toArray, List.set_cons_zero, List.set_cons_succ]
              refine wpAnyH_take (i := 8) (oi := { dst := some 105, op := Op.load 9 (Operand.tmp 104), type := 9, pos := "law.go:121", after := #[{ on := 7, ground := Ground.data }], guard := none }) (v := .string KJ) rfl (by kernel_rfl) (by kernel_rfl) (by kernel_rfl) (fun _ _ _ h => h) (Or.inl ⟨by rfl, fun W hW => by have hcl := hW.2; go_simp⟩) hs0 ?_
              try dsimp only [Act.put]
              try simp only [List.setIfInBounds_toArray, List.set_cons_zero, List.set_cons_succ]
              refine wpAnyH_ready (rs := [9, 13]) (by kernel_rfl) (by simp) ?_
              refine AllReadyH.cons (o := { dst := some 106, op := Op.call { callee := Callee.value (Operand.func 25), args := #[Operand.tmp 100, Operand.tmp 101, Operand.tmp 105], argTypes := #[24, 9, 9] }, type := 55, pos := "law.go:121", after := #[{ on := 3, ground := Ground.data }, { on := 4, ground := Ground.data }, { on := 8, ground := Ground.data }], guard := none }) rfl (fun K hK => ?_) (AllReadyH.cons (o := { dst := some 23, op := Op.alloc 54, type := 0, pos := "law.go:121", after := #[], guard := none }) rfl (fun K hK => ?_) AllReadyH.nil)
              · rw [if_pos (by rfl)]
                have HCC := HC14.out Wd (KS.out.trans (k0.out.mono KS.out.size))
                go_simp
                refine HCC.mono ?_; rintro e w10 ⟨P11, p12, Q13, q14, rfl, hpv, hbt⟩
                clear HCC
                have k15 := Lib.hid (k0.out.trans (hbt.mono k0.out.size))
                have hs16 := s2_below hs0 hbt
                have pv17 := Lib.hid hpv
                have pb18 := Lib.hid (Below.refl w10.heap.size w10)
                have b19 := Lib.hid hbt.size
                clear hpv hbt
                go_wp2_with fail
                refine hK.out _ _ hs16 (fun _ => ?_)
                clear hK K
                try dsimp only [Act.put]
                try simp only [List.setIfInBounds_toArray, List.set_cons_zero, List.set_cons_succ]
                refine wpAnyH_take (i := 10) (oi := { dst := some 96, op := Op.move (Operand.tmp 106), type := 55, pos := "law.go:121", after := #[{ on := 9, ground := Ground.data }], guard := none }) (v := .tuple #[.agg (PR pr.first pr.size (.slice P11 nr p12) (.slice Q13 mr q14)).toArray, .int .i64 VR]) rfl (by kernel_rfl) (by kernel_rfl) (by kernel_rfl) (fun _ _ _ h => h) (Or.inl ⟨by rfl, fun W hW => ?y20⟩) hs16 ?_
                case y20 => go_simp
                try dsimp only [Act.put]
                try simp only [List.setIfInBounds_toArray, List.set_cons_zero, List.set_cons_succ]
                refine wpAnyH_take (i := 11) (oi := { dst := some 107, op := Op.extract (Operand.tmp 96) 0, type := 54, pos := "law.go:121", after := #[{ on := 10, ground := Ground.data }], guard := none }) (v := .agg (PR pr.first pr.size (.slice P11 nr p12) (.slice Q13 mr q14)).toArray) rfl (by kernel_rfl) (by kernel_rfl) (by kernel_rfl) (fun _ _ _ h => h) (Or.inl ⟨by rfl, fun W hW => ?y21⟩) hs16 ?_
                case y21 => go_simp
                try dsimp only [Act.put]
                try simp only [List.setIfInBounds_toArray, List.set_cons_zero, List.set_cons_succ]
                refine wpAnyH_take (i := 12) (oi := { dst := some 108, op := Op.extract (Operand.tmp 96) 1, type := 30, pos := "law.go:121", after := #[{ on := 10, ground := Ground.data }, { on := 14, ground := Ground.gcOnly Departure.lateStores }], guard := none }) (v := .int .i64 VR) rfl (by kernel_rfl) (by kernel_rfl) (by kernel_rfl) (fun _ _ _ h => h) (Or.inl ⟨by rfl, fun W hW => ?y22⟩) hs16 ?_
                case y22 => go_simp
                try dsimp only [Act.put]
                try simp only [List.setIfInBounds_toArray, List.set_cons_zero, List.set_cons_succ]
                refine wpAnyH_ready (rs := [13]) (by kernel_rfl) (by simp) ?_
                refine AllReadyH.cons (o := { dst := some 23, op := Op.alloc 54, type := 0, pos := "law.go:121", after := #[], guard := none }) rfl (fun K hK => ?_) AllReadyH.nil
                rw [if_pos (by rfl)]
                have od28 := Lib.hid (show w10.heap.size ≤ w10.heap.size from pb18.out.size)
                have hbt := (Below.refl w10.heap.size w10).alloc (Nat.le_refl _) (.cells ZP.toArray 54)
                have k23 := Lib.hid (k15.out.trans (hbt.mono k15.out.size))
                have hs24 := s2_below hs16 hbt
                have pb25 := Lib.hid (pb18.out.trans (hbt.mono pb18.out.size))
                have z26 := Lib.hid (Blk.new w10 54 ZP)
                have gb27 := Lib.hid (k15.out.size)
                clear hbt
                go_simp
                refine hK.out _ _ hs24 (fun _ => ?_)
                clear hK K
                try dsimp only [Act.put]
                try simp only [List.setIfInBounds_toArray, List.set_cons_zero, List.set_cons_succ]
                refine wpAnyH_ready (rs := [14]) (by kernel_rfl) (by simp) ?_
                refine AllReadyH.cons (o := { dst := none, op := Op.store 54 (Operand.tmp 23) (Operand.tmp 107), type := 0, pos := "law.go:121", after := #[{ on := 13, ground := Ground.data }, { on := 11, ground := Ground.data }, { on := 9, ground := Ground.chain }, { on := 0, ground := Ground.phase }, { on := 1, ground := Ground.phase }, { on := 2, ground := Ground.phase }, { on := 3, ground := Ground.phase }, { on := 4, ground := Ground.phase }, { on := 5, ground := Ground.phase }, { on := 6, ground := Ground.phase }, { on := 7, ground := Ground.phase }, { on := 8, ground := Ground.phase }, { on := 9, ground := Ground.phase }, { on := 10, ground := Ground.phase }, { on := 11, ground := Ground.phase }, { on := 12, ground := Ground.textOnly Departure.lateStores }, { on := 13, ground := Ground.phase }], guard := none }) rfl (fun K hK => ?_) AllReadyH.nil
                rw [if_pos (by rfl)]
                have hne := gb27.out
                have hs9 := s2_row (b := w10.heap.size) (c := (PR pr.first pr.size (.slice P11 nr p12) (.slice Q13 mr q14)).toArray) hs24 (by omega) (by omega)
                have PF := Lib.hid (ProofV.keep (W' := (w10.alloc (.cells ZP.toArray 54)).setRow w10.heap.size (PR pr.first pr.size (.slice P11 nr p12) (.slice Q13 mr q14)).toArray) pv17.out (Nat.le_trans pb25.out.size (by simp)) (fun k hk hb2 => (heap_setRow_other _ _ _ _ (by have h5 := b19.out; have h6 := od28.out; omega)).trans (pb25.out.block k hk)))
                have KE := Lib.hid (show BxT ((w10.alloc (.cells ZP.toArray 54)).setRow w10.heap.size (PR pr.first pr.size (.slice P11 nr p12) (.slice Q13 mr q14)).toArray) (w10.heap.size) 54 pr P11 Q13 nr mr p12 q14 ∧ Below Ws.heap.size Ws ((w10.alloc (.cells ZP.toArray 54)).setRow w10.heap.size (PR pr.first pr.size (.slice P11 nr p12) (.slice Q13 mr q14)).toArray) from ⟨⟨z26.out.row _, pfAt_at PF.out HFr.out⟩, belowRow k23.out gb27.out _⟩)
                refine wp_store_row 54 (.tmp 23) (.tmp 107) rfl (w10.heap.size) (PR pr.first pr.size (.slice P11 nr p12) (.slice Q13 mr q14)).toArray rfl rfl 54 _ (show ((w10.alloc (.cells ZP.toArray 54))).heap[w10.heap.size]? = _ from z26.out) (size54A _ _ _ _) (ZP_PR _ _ _ _) (PR_one _ _ _ _ _ _ _ _) ?_
                refine hK.out _ _ hs9 (fun _ => ?_)
                clear hK K
                try dsimp only [Act.put]
                try simp only [List.setIfInBounds_toArray, List.set_cons_zero, List.set_cons_succ]
                refine wpAnyH_ready (rs := [15]) (by kernel_rfl) (by simp) ?_
                refine AllReadyH.cons (o := { dst := some 24, op := Op.assign (Operand.tmp 108), type := 30, pos := "law.go:121", after := #[{ on := 12, ground := Ground.data }, { on := 14, ground := Ground.chain }, { on := 0, ground := Ground.phase }, { on := 1, ground := Ground.phase }, { on := 2, ground := Ground.phase }, { on := 3, ground := Ground.phase }, { on := 4, ground := Ground.phase }, { on := 5, ground := Ground.phase }, { on := 6, ground := Ground.phase }, { on := 7, ground := Ground.phase }, { on := 8, ground := Ground.phase }, { on := 9, ground := Ground.phase }, { on := 10, ground := Ground.phase }, { on := 11, ground := Ground.phase }, { on := 12, ground := Ground.phase }, { on := 13, ground := Ground.phase }, { on := 14, ground := Ground.phase }], guard := none }) rfl (fun K hK => ?_) AllReadyH.nil
                rw [if_pos (by rfl)]
                go_simp
                refine hK.out _ _ hs9 (fun _ => ?_)
                clear hK K
                try dsimp only [Act.put]
                try simp only [List.setIfInBounds_toArray, List.set_cons_zero, List.set_cons_succ]
                refine wpAnyH_done (by kernel_rfl) ?_ _
                try dsimp only [Act.put]
                try simp only [List.setIfInBounds_toArray, List.set_cons_zero, List.set_cons_succ]
                go_wp2_with fail
                go_meet
                exact ⟨w10.heap.size, P11, Q13, p12, q14, rfl, rfl, KE⟩
              · rw [if_pos (by rfl)]
                have hbt := (Below.refl Wd.heap.size Wd).alloc (Nat.le_refl _) (.cells ZP.toArray 54)
                have k29 := Lib.hid (k0.out.trans (hbt.mono k0.out.size))
                have hs30 := s2_below hs0 hbt
                have z31 := Lib.hid (Blk.new Wd 54 ZP)
                have gb32 := Lib.hid (k0.out.size)
                clear hbt
                go_simp
                refine hK.out _ _ hs30 (fun _ => ?_)
                clear hK K
                try dsimp only [Act.put]
                try simp only [List.setIfInBounds_toArray, List.set_cons_zero, List.set_cons_succ]
                refine wpAnyH_ready (rs := [9]) (by kernel_rfl) (by simp) ?_
                refine AllReadyH.cons (o := { dst := some 106, op := Op.call { callee := Callee.value (Operand.func 25), args := #[Operand.tmp 100, Operand.tmp 101, Operand.tmp 105], argTypes := #[24, 9, 9] }, type := 55, pos := "law.go:121", after := #[{ on := 3, ground := Ground.data }, { on := 4, ground := Ground.data }, { on := 8, ground := Ground.data }], guard := none }) rfl (fun K hK => ?_) AllReadyH.nil
                rw [if_pos (by rfl)]
                have od44 := Lib.hid (show Wd.heap.size < (Wd.alloc (.cells ZP.toArray 54)).heap.size from z31.out.lt)
                have HCC := HC14.out (Wd.alloc (.cells ZP.toArray 54)) (KS.out.trans (k29.out.mono KS.out.size))
                go_simp
                refine HCC.mono ?_; rintro e w33 ⟨P34, p35, Q36, q37, rfl, hpv, hbt⟩
                clear HCC
                have k38 := Lib.hid (k29.out.trans (hbt.mono k29.out.size))
                have hs39 := s2_below hs30 hbt
                have z40 := Lib.hid (z31.out.below hbt z31.out.lt)
                have pv41 := Lib.hid hpv
                have pb42 := Lib.hid (Below.refl w33.heap.size w33)
                have b43 := Lib.hid hbt.size
                clear hpv hbt
                go_wp2_with fail
                refine hK.out _ _ hs39 (fun _ => ?_)
                clear hK K
                try dsimp only [Act.put]
                try simp only [List.setIfInBounds_toArray, List.set_cons_zero, List.set_cons_succ]
                refine wpAnyH_take (i := 10) (oi := { dst := some 96, op := Op.move (Operand.tmp 106), type := 55, pos := "law.go:121", after := #[{ on := 9, ground := Ground.data }], guard := none }) (v := .tuple #[.agg (PR pr.first pr.size (.slice P34 nr p35) (.slice Q36 mr q37)).toArray, .int .i64 VR]) rfl (by kernel_rfl) (by kernel_rfl) (by kernel_rfl) (fun _ _ _ h => h) (Or.inl ⟨by rfl, fun W hW => ?y45⟩) hs39 ?_
                case y45 => go_simp
                try dsimp only [Act.put]
                try simp only [List.setIfInBounds_toArray, List.set_cons_zero, List.set_cons_succ]
                refine wpAnyH_take (i := 11) (oi := { dst := some 107, op := Op.extract (Operand.tmp 96) 0, type := 54, pos := "law.go:121", after := #[{ on := 10, ground := Ground.data }], guard := none }) (v := .agg (PR pr.first pr.size (.slice P34 nr p35) (.slice Q36 mr q37)).toArray) rfl (by kernel_rfl) (by kernel_rfl) (by kernel_rfl) (fun _ _ _ h => h) (Or.inl ⟨by rfl, fun W hW => ?y46⟩) hs39 ?_
                case y46 => go_simp
                try dsimp only [Act.put]
                try simp only [List.setIfInBounds_toArray, List.set_cons_zero, List.set_cons_succ]
                refine wpAnyH_take (i := 12) (oi := { dst := some 108, op := Op.extract (Operand.tmp 96) 1, type := 30, pos := "law.go:121", after := #[{ on := 10, ground := Ground.data }, { on := 14, ground := Ground.gcOnly Departure.lateStores }], guard := none }) (v := .int .i64 VR) rfl (by kernel_rfl) (by kernel_rfl) (by kernel_rfl) (fun _ _ _ h => h) (Or.inl ⟨by rfl, fun W hW => ?y47⟩) hs39 ?_
                case y47 => go_simp
                try dsimp only [Act.put]
                try simp only [List.setIfInBounds_toArray, List.set_cons_zero, List.set_cons_succ]
                refine wpAnyH_ready (rs := [14]) (by kernel_rfl) (by simp) ?_
                refine AllReadyH.cons (o := { dst := none, op := Op.store 54 (Operand.tmp 23) (Operand.tmp 107), type := 0, pos := "law.go:121", after := #[{ on := 13, ground := Ground.data }, { on := 11, ground := Ground.data }, { on := 9, ground := Ground.chain }, { on := 0, ground := Ground.phase }, { on := 1, ground := Ground.phase }, { on := 2, ground := Ground.phase }, { on := 3, ground := Ground.phase }, { on := 4, ground := Ground.phase }, { on := 5, ground := Ground.phase }, { on := 6, ground := Ground.phase }, { on := 7, ground := Ground.phase }, { on := 8, ground := Ground.phase }, { on := 9, ground := Ground.phase }, { on := 10, ground := Ground.phase }, { on := 11, ground := Ground.phase }, { on := 12, ground := Ground.textOnly Departure.lateStores }, { on := 13, ground := Ground.phase }], guard := none }) rfl (fun K hK => ?_) AllReadyH.nil
                rw [if_pos (by rfl)]
                have hne := gb32.out
                have hs9 := s2_row (b := Wd.heap.size) (c := (PR pr.first pr.size (.slice P34 nr p35) (.slice Q36 mr q37)).toArray) hs39 (by omega) (by omega)
                have PF := Lib.hid (ProofV.keep (W' := w33.setRow Wd.heap.size (PR pr.first pr.size (.slice P34 nr p35) (.slice Q36 mr q37)).toArray) pv41.out (Nat.le_trans pb42.out.size (by simp)) (fun k hk hb2 => (heap_setRow_other _ _ _ _ (by have h5 := b43.out; have h6 := od44.out; omega)).trans (pb42.out.block k hk)))
                have KE := Lib.hid (show BxT (w33.setRow Wd.heap.size (PR pr.first pr.size (.slice P34 nr p35) (.slice Q36 mr q37)).toArray) (Wd.heap.size) 54 pr P34 Q36 nr mr p35 q37 ∧ Below Ws.heap.size Ws (w33.setRow Wd.heap.size (PR pr.first pr.size (.slice P34 nr p35) (.slice Q36 mr q37)).toArray) from ⟨⟨z40.out.row _, pfAt_at PF.out HFr.out⟩, belowRow k38.out gb32.out _⟩)
                refine wp_store_row 54 (.tmp 23) (.tmp 107) rfl (Wd.heap.size) (PR pr.first pr.size (.slice P34 nr p35) (.slice Q36 mr q37)).toArray rfl rfl 54 _ (show (w33).heap[Wd.heap.size]? = _ from z40.out) (size54A _ _ _ _) (ZP_PR _ _ _ _) (PR_one _ _ _ _ _ _ _ _) ?_
                refine hK.out _ _ hs9 (fun _ => ?_)
                clear hK K
                try dsimp only [Act.put]
                try simp only [List.setIfInBounds_toArray, List.set_cons_zero, List.set_cons_succ]
                refine wpAnyH_ready (rs := [15]) (by kernel_rfl) (by simp) ?_
                refine AllReadyH.cons (o := { dst := some 24, op := Op.assign (Operand.tmp 108), type := 30, pos := "law.go:121", after := #[{ on := 12, ground := Ground.data }, { on := 14, ground := Ground.chain }, { on := 0, ground := Ground.phase }, { on := 1, ground := Ground.phase }, { on := 2, ground := Ground.phase }, { on := 3, ground := Ground.phase }, { on := 4, ground := Ground.phase }, { on := 5, ground := Ground.phase }, { on := 6, ground := Ground.phase }, { on := 7, ground := Ground.phase }, { on := 8, ground := Ground.phase }, { on := 9, ground := Ground.phase }, { on := 10, ground := Ground.phase }, { on := 11, ground := Ground.phase }, { on := 12, ground := Ground.phase }, { on := 13, ground := Ground.phase }, { on := 14, ground := Ground.phase }], guard := none }) rfl (fun K hK => ?_) AllReadyH.nil
                rw [if_pos (by rfl)]
                go_simp
                refine hK.out _ _ hs9 (fun _ => ?_)
                clear hK K
                try dsimp only [Act.put]
                try simp only [List.setIfInBounds_toArray, List.set_cons_zero, List.set_cons_succ]
                refine wpAnyH_done (by kernel_rfl) ?_ _
                try dsimp only [Act.put]
                try simp only [List.setIfInBounds_toArray, List.set_cons_zero, List.set_cons_succ]
                go_wp2_with fail
                go_meet
                exact ⟨Wd.heap.size, P34, Q36, p35, q37, rfl, rfl, KE⟩
            case rest =>
              obtain ⟨g14, A114, A214, c114, c214, rfl, rfl, KE⟩ := hcut
              obtain ⟨w14, hw14⟩ : ∃ W, W = wc := ⟨_, rfl⟩
              rw [← hw14] at KE ⊢
              have X14 := Lib.hid KE.out.1
              have K14 := Lib.hid (KS.out.trans (KE.out.2.mono KS.out.size))
              have X11 := Lib.hid ((by rw [← hWs] at X11; exact X11.out : BxT Ws _ _ _ _ _ _ _ _ _).below KE.out.2)
              have X12 := Lib.hid ((by rw [← hWs] at X12; exact X12.out : BxT Ws _ _ _ _ _ _ _ _ _).below KE.out.2)
              have X13 := Lib.hid ((by rw [← hWs] at X13; exact X13.out : BxT Ws _ _ _ _ _ _ _ _ _).below KE.out.2)
              clear KE hw14 HS KS HSZ hgl7 hgk7 hWs
              go_upto_region 15 with fail
              go_cut [130] from 53 to 130 (fun s130 wx => s130 = .bool false ∧ Hid (Below w14.heap.size w14 wx))
              case first =>
                refine wp_region_held (S := fun W => Blk W g11 50 (PR pq.first pq.size (.slice A111 nq c111) (.slice A211 mq c211)) ∧ Blk W g12 54 (PR pq.first pq.size (.slice A112 nq c112) (.slice A212 mq c212)) ∧ Blk W g13 50 (PR pr.first pr.size (.slice A113 nr c113) (.slice A213 mr c213)) ∧ Blk W g14 54 (PR pr.first pr.size (.slice A114 nr c114) (.slice A214 mr c214))) (by kernel_rfl) ?_
                change wpAnyH _ _ _ _ _ _ _ _ (World.drew w14)
                have k0 := Lib.hid (Below.refl w14.heap.size w14).drew
                have hs0 : Blk (World.drew w14) g11 50 (PR pq.first pq.size (.slice A111 nq c111) (.slice A211 mq c211)) ∧ Blk (World.drew w14) g12 54 (PR pq.first pq.size (.slice A112 nq c112) (.slice A212 mq c212)) ∧ Blk (World.drew w14) g13 50 (PR pr.first pr.size (.slice A113 nr c113) (.slice A213 mr c213)) ∧ Blk (World.drew w14) g14 54 (PR pr.first pr.size (.slice A114 nr c114) (.slice A214 mr c214)) := ⟨X11.out.blk, X12.out.blk, X13.out.blk, X14.out.blk⟩
                generalize World.drew w14 = Wd at k0 hs0 ⊢
                refine wpAnyH_take (i := 0) (oi := { dst := some 109, op := Op.move (Operand.tmp 18), type := 30, pos := "law.go:122", after := #[], guard := none }) (v := .int .i64 V) rfl (by kernel_rfl) (by kernel_rfl) (by kernel_rfl) (fun _ _ _ h => h) (Or.inl ⟨by rfl, fun W hW => ?y1⟩) hs0 ?_
                case y1 => go_simp
                try dsimp only [Act.put]
                try simp only [List.setIfInBounds_toArray, List.set_cons_zero, List.set_cons_succ]
                refine wpAnyH_take (i := 1) (oi := { dst := some 110, op := Op.move (Operand.tmp 20), type := 30, pos := "law.go:122", after := #[], guard := none }) (v := .int .i64 V) rfl (by kernel_rfl) (by kernel_rfl) (by kernel_rfl) (fun _ _ _ h => h) (Or.inl ⟨by rfl, fun W hW => ?y2⟩) hs0 ?_
                case y2 => go_simp
                try dsimp only [Act.put]
                try simp only [List.setIfInBounds_toArray, List.set_cons_zero, List.set_cons_succ]
                refine wpAnyH_take (i := 2) (oi := { dst := some 111, op := Op.binOp BinOp.neq 30 (Operand.tmp 109) (Operand.tmp 110) 30, type := 4, pos := "law.go:122", after := #[{ on := 0, ground := Ground.data }, { on := 1, ground := Ground.data }], guard := none }) (v := .bool false) rfl (by kernel_rfl) (by kernel_rfl) (by kernel_rfl) (fun _ _ _ h => h) (Or.inl ⟨by rfl, fun W hW => ?y3⟩) hs0 ?_
                case y3 => go_simp
                try dsimp only [Act.put]
                try simp only [List.setIfInBounds_toArray, List.set_cons_zero, List.set_cons_succ]
                refine wpAnyH_take (i := 3) (oi := { dst := some 112, op := Op.move (Operand.tmp 111), type := 4, pos := "law.go:122", after := #[{ on := 2, ground := Ground.data }], guard := none }) (v := .bool false) rfl (by kernel_rfl) (by kernel_rfl) (by kernel_rfl) (fun _ _ _ h => h) (Or.inl ⟨by rfl, fun W hW => ?y4⟩) hs0 ?_
                case y4 => go_simp
                try dsimp only [Act.put]
                try simp only [List.setIfInBounds_toArray, List.set_cons_zero, List.set_cons_succ]
                refine wpAnyH_take (i := 4) (oi := { dst := some 113, op := Op.move (Operand.tmp 22), type := 30, pos := "law.go:122", after := #[{ on := 3, ground := Ground.guard }], guard := some (3, false) }) (v := .int .i64 VR) rfl (by kernel_rfl) (by kernel_rfl) (by kernel_rfl) (fun _ _ _ h => h) (Or.inl ⟨by rfl, fun W hW => ?y5⟩) hs0 ?_
                case y5 => go_simp
                try dsimp only [Act.put]
                try simp only [List.setIfInBounds_toArray, List.set_cons_zero, List.set_cons_succ]
                refine wpAnyH_take (i := 5) (oi := { dst := some 114, op := Op.move (Operand.tmp 24), type := 30, pos := "law.go:122", after := #[{ on := 3, ground := Ground.guard }], guard := some (3, false) }) (v := .int .i64 VR) rfl (by kernel_rfl) (by kernel_rfl) (by kernel_rfl) (fun _ _ _ h => h) (Or.inl ⟨by rfl, fun W hW => ?y6⟩) hs0 ?_
                case y6 => go_simp
                try dsimp only [Act.put]
                try simp only [List.setIfInBounds_toArray, List.set_cons_zero, List.set_cons_succ]
                refine wpAnyH_take (i := 6) (oi := { dst := some 115, op := Op.binOp BinOp.neq 30 (Operand.tmp 113) (Operand.tmp 114) 30, type := 4, pos := "law.go:122", after := #[{ on := 4, ground := Ground.data }, { on := 5, ground := Ground.data }, { on := 3, ground := Ground.guard }], guard := some (3, false) }) (v := .bool false) rfl (by kernel_rfl) (by kernel_rfl) (by kernel_rfl) (fun _ _ _ h => h) (Or.inl ⟨by rfl, fun W hW => ?y7⟩) hs0 ?_
                case y7 => go_simp
                try dsimp only [Act.put]
                try simp only [List.setIfInBounds_toArray, List.set_cons_zero, List.set_cons_succ]
                refine wpAnyH_take (i := 7) (oi := { dst := some 116, op := Op.pick (Operand.tmp 112) (Operand.const (Value.bool true)) (Operand.tmp 115), type := 4, pos := "law.go:122", after := #[{ on := 3, ground := Ground.data }, { on := 6, ground := Ground.data }], guard := none }) (v := .bool false) rfl (by kernel_rfl) (by kernel_rfl) (by kernel_rfl) (fun _ _ _ h => h) (Or.inl ⟨by rfl, fun W hW => ?y8⟩) hs0 ?_
                case y8 => go_simp
                try dsimp only [Act.put]
                try simp only [List.setIfInBounds_toArray, List.set_cons_zero, List.set_cons_succ]
                refine wpAnyH_take (i := 8) (oi := { dst := some 117, op := Op.move (Operand.tmp 116), type := 4, pos := "law.go:122", after := #[{ on := 7, ground := Ground.data }, { on := 3, ground := Ground.chain }], guard := none }) (v := .bool false) rfl (by kernel_rfl) (by kernel_rfl) (by kernel_rfl) (fun _ _ _ h => h) (Or.inl ⟨by rfl, fun W hW => ?y9⟩) hs0 ?_
                case y9 => go_simp
                try dsimp only [Act.put]
                try simp only [List.setIfInBounds_toArray, List.set_cons_zero, List.set_cons_succ]
                refine wpAnyH_take (i := 9) (oi := { dst := some 118, op := Op.load 50 (Operand.tmp 17), type := 50, pos := "law.go:122", after := #[{ on := 8, ground := Ground.guard }], guard := some (8, false) }) (v := .agg (PR pq.first pq.size (.slice A111 nq c111) (.slice A211 mq c211)).toArray) rfl (by kernel_rfl) (by kernel_rfl) (by kernel_rfl) (fun _ _ _ h => h) (Or.inl ⟨by rfl, fun W hW => exec_load_row _ _ 50 (.tmp 17) rfl ⟨g11, 0, none⟩ rfl (PR pq.first pq.size (.slice A111 nq c111) (.slice A211 mq c211)) W (run_loadVar_at W _ 50 (PR pq.first pq.size (.slice A111 nq c111) (.slice A211 mq c211)) _ (Blk.at hW.1) Tryd.underlying50 rfl (size50L _ _ _ _))⟩) hs0 ?_
                try dsimp only [Act.put]
                try simp only [List.setIfInBounds_toArray, List.set_cons_zero, List.set_cons_succ]
                refine wpAnyH_take (i := 11) (oi := { dst := some 120, op := Op.load 54 (Operand.tmp 19), type := 54, pos := "law.go:122", after := #[{ on := 8, ground := Ground.guard }], guard := some (8, false) }) (v := .agg (PR pq.first pq.size (.slice A112 nq c112) (.slice A212 mq c212)).toArray) rfl (by kernel_rfl) (by kernel_rfl) (by kernel_rfl) (fun _ _ _ h => h) (Or.inl ⟨by rfl, fun W hW => exec_load_row _ _ 54 (.tmp 19) rfl ⟨g12, 0, none⟩ rfl (PR pq.first pq.size (.slice A112 nq c112) (.slice A212 mq c212)) W (run_loadVar_at W _ 54 (PR pq.first pq.size (.slice A112 nq c112) (.slice A212 mq c212)) _ (Blk.at hW.2.1) Tryd.underlying54 rfl (size54L _ _ _ _))⟩) hs0 ?_
                try dsimp only [Act.put]
                try simp only [List.setIfInBounds_toArray, List.set_cons_zero, List.set_cons_succ]
                refine wpAnyH_ready (rs := [10]) (by kernel_rfl) (by simp) ?_
                refine AllReadyH.cons (o := { dst := some 119, op := Op.call { callee := Callee.value (Operand.func 27), args := #[Operand.tmp 118], argTypes := #[50] }, type := 54, pos := "law.go:122", after := #[{ on := 9, ground := Ground.data }, { on := 8, ground := Ground.chain }, { on := 8, ground := Ground.guard }], guard := some (8, false) }) rfl (fun K hK => ?_) AllReadyH.nil
                rw [if_pos (by rfl)]
                have HCC := model_any pq A111 A211 nq mq c111 c211 Wd HLnq.out HLmq.out (X11.out.below k0.out).at_
                unfold ModelP at HCC
                go_simp
                refine HCC.mono ?_; rintro e w12 ⟨A13, c14, rfl, hpa, hbt⟩
                clear HCC
                have k16 := Lib.hid (k0.out.trans (hbt.mono k0.out.size))
                have hs17 := s4_below hs0 hbt
                have o15 := Lib.hid hpa
                clear hpa hbt
                go_wp2_with fail
                refine hK.out _ _ hs17 (fun _ => ?_)
                clear hK K
                try dsimp only [Act.put]
                try simp only [List.setIfInBounds_toArray, List.set_cons_zero, List.set_cons_succ]
                refine wpAnyH_ready (rs := [12]) (by kernel_rfl) (by simp) ?_
                refine AllReadyH.cons (o := { dst := some 121, op := Op.call { callee := Callee.value (Operand.func 26), args := #[Operand.tmp 119, Operand.tmp 120], argTypes := #[54, 54] }, type := 4, pos := "law.go:122", after := #[{ on := 10, ground := Ground.data }, { on := 11, ground := Ground.data }, { on := 10, ground := Ground.chain }, { on := 8, ground := Ground.guard }], guard := some (8, false) }) rfl (fun K hK => ?_) AllReadyH.nil
                rw [if_pos (by rfl)]
                have HCC := samePf_any pq A13 A211 A112 A212 nq mq c14 c211 c112 c212 w12 HLnq.out HLmq.out o15.out (X12.out.below k16.out).at_
                go_simp
                refine HCC.mono ?_; rintro e w18 ⟨rfl, hbt⟩
                clear HCC
                have k19 := Lib.hid (k16.out.trans (hbt.mono k16.out.size))
                have hs20 := s4_below hs17 hbt
                clear hbt
                go_wp2_with fail
                refine hK.out _ _ hs20 (fun _ => ?_)
                clear hK K
                try dsimp only [Act.put]
                try simp only [List.setIfInBounds_toArray, List.set_cons_zero, List.set_cons_succ]
                refine wpAnyH_take (i := 13) (oi := { dst := some 122, op := Op.unOp UnOp.not 4 (Operand.tmp 121), type := 4, pos := "law.go:122", after := #[{ on := 12, ground := Ground.data }, { on := 8, ground := Ground.guard }], guard := some (8, false) }) (v := .bool false) rfl (by kernel_rfl) (by kernel_rfl) (by kernel_rfl) (fun _ _ _ h => h) (Or.inl ⟨by rfl, fun W hW => ?y21⟩) hs20 ?_
                case y21 => go_simp
                try dsimp only [Act.put]
                try simp only [List.setIfInBounds_toArray, List.set_cons_zero, List.set_cons_succ]
                refine wpAnyH_take (i := 14) (oi := { dst := some 123, op := Op.pick (Operand.tmp 117) (Operand.const (Value.bool true)) (Operand.tmp 122), type := 4, pos := "law.go:122", after := #[{ on := 8, ground := Ground.data }, { on := 13, ground := Ground.data }], guard := none }) (v := .bool false) rfl (by kernel_rfl) (by kernel_rfl) (by kernel_rfl) (fun _ _ _ h => h) (Or.inl ⟨by rfl, fun W hW => ?y22⟩) hs20 ?_
                case y22 => go_simp
                try dsimp only [Act.put]
                try simp only [List.setIfInBounds_toArray, List.set_cons_zero, List.set_cons_succ]
                refine wpAnyH_take (i := 15) (oi := { dst := some 124, op := Op.move (Operand.tmp 123), type := 4, pos := "law.go:122", after := #[{ on := 14, ground := Ground.data }, { on := 12, ground := Ground.chain }], guard := none }) (v := .bool false) rfl (by kernel_rfl) (by kernel_rfl) (by kernel_rfl) (fun _ _ _ h => h) (Or.inl ⟨by rfl, fun W hW => ?y23⟩) hs20 ?_
                case y23 => go_simp
                try dsimp only [Act.put]
                try simp only [List.setIfInBounds_toArray, List.set_cons_zero, List.set_cons_succ]
                refine wpAnyH_take (i := 16) (oi := { dst := some 125, op := Op.load 50 (Operand.tmp 21), type := 50, pos := "law.go:122", after := #[{ on := 15, ground := Ground.guard }], guard := some (15, false) }) (v := .agg (PR pr.first pr.size (.slice A113 nr c113) (.slice A213 mr c213)).toArray) rfl (by kernel_rfl) (by kernel_rfl) (by kernel_rfl) (fun _ _ _ h => h) (Or.inl ⟨by rfl, fun W hW => exec_load_row _ _ 50 (.tmp 21) rfl ⟨g13, 0, none⟩ rfl (PR pr.first pr.size (.slice A113 nr c113) (.slice A213 mr c213)) W (run_loadVar_at W _ 50 (PR pr.first pr.size (.slice A113 nr c113) (.slice A213 mr c213)) _ (Blk.at hW.2.2.1) Tryd.underlying50 rfl (size50L _ _ _ _))⟩) hs20 ?_
                try dsimp only [Act.put]
                try simp only [List.setIfInBounds_toArray, List.set_cons_zero, List.set_cons_succ]
                refine wpAnyH_take (i := 18) (oi := { dst := some 127, op := Op.load 54 (Operand.tmp 23), type := 54, pos := "law.go:122", after := #[{ on := 15, ground := Ground.guard }], guard := some (15, false) }) (v := .agg (PR pr.first pr.size (.slice A114 nr c114) (.slice A214 mr c214)).toArray) rfl (by kernel_rfl) (by kernel_rfl) (by kernel_rfl) (fun _ _ _ h => h) (Or.inl ⟨by rfl, fun W hW => exec_load_row _ _ 54 (.tmp 23) rfl ⟨g14, 0, none⟩ rfl (PR pr.first pr.size (.slice A114 nr c114) (.slice A214 mr c214)) W (run_loadVar_at W _ 54 (PR pr.first pr.size (.slice A114 nr c114) (.slice A214 mr c214)) _ (Blk.at hW.2.2.2) Tryd.underlying54 rfl (size54L _ _ _ _))⟩) hs20 ?_
                try dsimp only [Act.put]
                try simp only [List.setIfInBounds_toArray, List.set_cons_zero, List.set_cons_succ]
                refine wpAnyH_ready (rs := [17]) (by kernel_rfl) (by simp) ?_
                refine AllReadyH.cons (o := { dst := some 126, op := Op.call { callee := Callee.value (Operand.func 27), args := #[Operand.tmp 125], argTypes := #[50] }, type := 54, pos := "law.go:122", after := #[{ on := 16, ground := Ground.data }, { on := 15, ground := Ground.chain }, { on := 15, ground := Ground.guard }], guard := some (15, false) }) rfl (fun K hK => ?_) AllReadyH.nil
                rw [if_pos (by rfl)]
                have HCC := model_any pr A113 A213 nr mr c113 c213 w18 HLnr.out HLmr.out (X13.out.below k19.out).at_
                unfold ModelP at HCC
                go_simp
                refine HCC.mono ?_; rintro e w26 ⟨A27, c28, rfl, hpa, hbt⟩
                clear HCC
                have k30 := Lib.hid (k19.out.trans (hbt.mono k19.out.size))
                have hs31 := s4_below hs20 hbt
                have o29 := Lib.hid hpa
                clear hpa hbt
                go_wp2_with fail
                refine hK.out _ _ hs31 (fun _ => ?_)
                clear hK K
                try dsimp only [Act.put]
                try simp only [List.setIfInBounds_toArray, List.set_cons_zero, List.set_cons_succ]
                refine wpAnyH_ready (rs := [19]) (by kernel_rfl) (by simp) ?_
                refine AllReadyH.cons (o := { dst := some 128, op := Op.call { callee := Callee.value (Operand.func 26), args := #[Operand.tmp 126, Operand.tmp 127], argTypes := #[54, 54] }, type := 4, pos := "law.go:122", after := #[{ on := 17, ground := Ground.data }, { on := 18, ground := Ground.data }, { on := 17, ground := Ground.chain }, { on := 15, ground := Ground.guard }], guard := some (15, false) }) rfl (fun K hK => ?_) AllReadyH.nil
                rw [if_pos (by rfl)]
                have HCC := samePf_any pr A27 A213 A114 A214 nr mr c28 c213 c114 c214 w26 HLnr.out HLmr.out o29.out (X14.out.below k30.out).at_
                go_simp
                refine HCC.mono ?_; rintro e w32 ⟨rfl, hbt⟩
                clear HCC
                have k33 := Lib.hid (k30.out.trans (hbt.mono k30.out.size))
                have hs34 := s4_below hs31 hbt
                clear hbt
                go_wp2_with fail
                refine hK.out _ _ hs34 (fun _ => ?_)
                clear hK K
                try dsimp only [Act.put]
                try simp only [List.setIfInBounds_toArray, List.set_cons_zero, List.set_cons_succ]
                refine wpAnyH_take (i := 20) (oi := { dst := some 129, op := Op.unOp UnOp.not 4 (Operand.tmp 128), type := 4, pos := "law.go:122", after := #[{ on := 19, ground := Ground.data }, { on := 15, ground := Ground.guard }], guard := some (15, false) }) (v := .bool false) rfl (by kernel_rfl) (by kernel_rfl) (by kernel_rfl) (fun _ _ _ h => h) (Or.inl ⟨by rfl, fun W hW => ?y35⟩) hs34 ?_
                case y35 => go_simp
                try dsimp only [Act.put]
                try simp only [List.setIfInBounds_toArray, List.set_cons_zero, List.set_cons_succ]
                refine wpAnyH_take (i := 21) (oi := { dst := some 130, op := Op.pick (Operand.tmp 124) (Operand.const (Value.bool true)) (Operand.tmp 129), type := 4, pos := "law.go:122", after := #[{ on := 15, ground := Ground.data }, { on := 20, ground := Ground.data }], guard := none }) (v := .bool false) rfl (by kernel_rfl) (by kernel_rfl) (by kernel_rfl) (fun _ _ _ h => h) (Or.inl ⟨by rfl, fun W hW => ?y36⟩) hs34 ?_
                case y36 => go_simp
                try dsimp only [Act.put]
                try simp only [List.setIfInBounds_toArray, List.set_cons_zero, List.set_cons_succ]
                refine wpAnyH_done (by kernel_rfl) ?_ _
                try dsimp only [Act.put]
                try simp only [List.setIfInBounds_toArray, List.set_cons_zero, List.set_cons_succ]
                have KE := k33
                go_wp2_with fail
                go_meet
                exact ⟨rfl, KE⟩
              case rest =>
                obtain ⟨rfl, KE⟩ := hcut
                have K15 := Lib.hid (K14.out.trans (KE.out.mono K14.out.size))
                clear KE
                go_wp2_with fail
                go_roundw
                case rel => exact ⟨j + 1, by omega, by go_num, K15⟩
                case measure => simp only [intOf]; omega
    · obtain rfl : j = 3 := by omega
      have KF := Lib.hid (B7.out.trans (HB7.out.mono B7.out.size))
      go_wp2_with fail
      go_roundw
      case rel => exact ⟨i + 1, by omega, by go_num, KF⟩
      case measure => simp only [intOf]; omega
  · obtain rfl : i = 3 := by omega
    have Bw := Lib.hid (Bs3.out.trans (HB.out.mono Bs3.out.size))
    go_wp2_with (go_at_call 19; refine (lives_any _ (HT.out.below Bw.out HT.out.1)).mono ?_; rintro e w14 ⟨rfl, hb⟩; have K14 := Lib.hid (Bw.out.trans (hb.mono Bw.out.size)); clear hb)
    go_ret
    exact ⟨rfl, K14.out⟩
end Go.Proofs.YtofccgkgjcnfbaaDoor
