/-
  The law RatioSums returns true for all lists of ratios and exponents.
  No condition but that what came in can be read, and that the library's variable MaxLen is there.
-/
import Derived.Test.YtbfhilbagojdnaaSq
import Derived.Test.YtbfhilbagojdnaaMk
import Derived.Deep.CutBlock
namespace Go.Proofs.Ytbfhilbagojdnaa
open Go.RowKit Wr Go.Proofs.Ytbfhilbagojdnaa.Nm
set_option linter.unusedVariables false
set_option maxRecDepth 100000

theorem gd_made (x y : Nat) : Gd5 (madeR x y) := by
  unfold madeR
  split
  · rename_i h
    exact ⟨⟨lim_ok x, dl_ok y⟩, lim_len.2 h.1, dl_len2 (lim_len.2 h.2)⟩
  · exact gd_no 4
theorem gd_pow (r : Rt) (n : Int) : Gd5 (powR r n) := by
  unfold powR
  split
  · exact gd_no _
  · split
    · exact gd_no _
    · exact gd_made _ _
theorem gd_sumG : ∀ (L : List Rt) (x y : Nat), Vr x y → (∀ r ∈ L, OkR r) → Gd5 (sumG x y L)
  | [], x, y, hv, _ => gd_vr hv
  | r :: L, x, y, hv, ho => by
    obtain ⟨e1, e2⟩ := sum_addR hv (ho r (List.mem_cons_self ..)) L
    rw [e1]
    split
    · exact gd_no _
    · rename_i h
      obtain ⟨a, b, hab, e⟩ := e2 (by simpa using h)
      rw [e]
      simp only [num_lim, dl_den b hab.pos]
      exact gd_sumG L a b hab fun q hq => ho q (List.mem_cons_of_mem _ hq)
theorem gd_sum {L : List Rt} (h : ∀ r ∈ L, OkR r) : Gd5 (sumR L) := gd_sumG L 0 1 vr_zero h
theorem Rls.oks {w : World} {v : Value} {L : List Rt} (h : Rls w v L) : ∀ r ∈ L, OkR r := by
  obtain ⟨A, c, vs, _, _, _, _, _, hk⟩ := h
  intro r hr
  obtain ⟨i, hi, rfl⟩ := List.mem_iff_getElem.1 hr
  obtain ⟨p, _, hp⟩ := hk i _ (List.getElem?_eq_getElem hi)
  exact hp.ok
theorem rls_cells {w : World} {v : Value} {L : List Rt} (h : Rls w v L) (hl : L.length = 7) : ∃ g o c, v = .slice (some ⟨g, o, none⟩) 7 c ∧ 7 ≤ c ∧ g < w.heap.size ∧ ∀ i, i < 7 → ∃ A1 n1 k1 A2 n2 k2 r, L[i]? = some r ∧ w.cell? ⟨g, o + i * 2, none⟩ = some (.slice A1 n1 k1) ∧ w.cell? ⟨g, o + i * 2 + 1, none⟩ = some (.slice A2 n2 k2) ∧ Rk w (.slice A1 n1 k1) (.slice A2 n2 k2) r := by
  obtain ⟨A, c, vs, e, hc, hn, hr, hlv, hk⟩ := h
  obtain ⟨g, o, rfl, hgB, hcell⟩ := hr (by intro e; have h1 := flat_len vs; rw [e] at h1; simp at h1; omega)
  refine ⟨g, o, c, by rw [e, hl], by omega, hgB, fun i hi => ?_⟩
  obtain ⟨r, hri⟩ : ∃ r, L[i]? = some r := ⟨L[i]'(by omega), List.getElem?_eq_getElem _⟩
  obtain ⟨⟨a, b⟩, hvi, hkr⟩ := hk i r hri
  obtain ⟨f1, f2⟩ := flat_at vs i _ hvi
  obtain ⟨A1, n1, k1, e1⟩ := sl_form hkr.s1
  obtain ⟨A2, n2, k2, e2⟩ := sl_form hkr.s2
  dsimp only at e1 e2 hkr f1 f2
  subst e1 e2
  exact ⟨A1, n1, k1, A2, n2, k2, r, hri, hcell _ _ f1, hcell _ _ f2, hkr⟩
def PtR (B : Nat) (v : Value) (i : Nat) (W : World) : Prop := ∃ (vs : List (Value × Value)) (L : List Rt), Rw B W v i vs ∧ L.length = i ∧ ∀ (j : Nat) r, L[j]? = some r → ∃ p, vs[j]? = some p ∧ Rk W p.1 p.2 r
theorem pt_more {W : World} {vs : List (Value × Value)} {L : List Rt} {u1 u2 : Value} {r : Rt} (hl : vs.length = L.length) (h : ∀ (j : Nat) r, L[j]? = some r → ∃ p, vs[j]? = some p ∧ Rk W p.1 p.2 r) (hk : Rk W u1 u2 r) :
    ∀ (j : Nat) r', (L ++ [r])[j]? = some r' → ∃ p, (vs ++ [(u1, u2)])[j]? = some p ∧ Rk W p.1 p.2 r' := by
  intro j r' hj
  rcases Nat.lt_or_ge j L.length with hlt | hge
  · rw [List.getElem?_append_left hlt] at hj
    obtain ⟨p, h1, h2⟩ := h j r' hj
    exact ⟨p, by rw [List.getElem?_append_left (by omega)]; exact h1, h2⟩
  · rw [List.getElem?_append_right hge] at hj
    have hj0 : j - L.length = 0 := by
      have := (List.getElem?_eq_some_iff.1 hj).1
      simp at this
      omega
    rw [hj0] at hj
    have e : r = r' := by simpa using hj
    subst e
    exact ⟨(u1, u2), by rw [List.getElem?_append_right (by omega), hl, hj0]; rfl, hk⟩
theorem flat_take : ∀ (l : List (Value × Value)) (k : Nat), flat (l.take k) = (flat l).take (k * 2)
  | [], k => by simp [flat]
  | p :: l, 0 => by simp [flat]
  | p :: l, k + 1 => by
    rw [List.take_succ_cons, show (k + 1) * 2 = k * 2 + 1 + 1 by omega]
    simp only [flat, List.take_succ_cons, flat_take l k]
theorem Rls.take {w : World} {A : Option Addr} {n c : Nat} {L : List Rt} (h : Rls w (.slice A n c) L) (k : Nat) (hk : k ≤ L.length) : Rls w (.slice A k c) (L.take k) := by
  obtain ⟨A', c', vs, e, hc, hn, hr, hlv, hkk⟩ := h
  injection e with e1 e2 e3
  subst e1 e3
  have hl : (L.take k).length = k := by rw [List.length_take]; omega
  refine ⟨A, c, vs.take k, by rw [hl], by omega, hn, ?_, by rw [List.length_take, hl]; omega, fun i r hi => ?_⟩
  · have e : flat (vs.take k) = (flat vs).take (k * 2) := flat_take vs k
    rw [e]; exact hr.take _
  · rw [List.getElem?_take] at hi ⊢
    split at hi
    · rename_i h; rw [if_pos h]; exact hkk i r hi
    · cases hi
/-- The five lists. -/
def LsV (LC : List Value) (gL : Nat) (W : World) : Prop := Blk W gL 23 LC ∧ ∀ i, i < 5 → ∃ A n c Lx, LC[i]? = some (.slice A n c) ∧ Rls W (.slice A n c) Lx ∧ Lx.length ≤ 100
theorem lists_rel {W : World} {gL np cp g o c c9 B : Nat} {Ap A9 : Option Addr} {LP L : List Rt} {vsp : List (Value × Value)} {u1 u2 : Value} {r2 : Rt}
    (hL : Blk W gL 23 [.slice Ap np cp, .slice (some ⟨g, o, none⟩) 2 c, .slice (some ⟨g, o, none⟩) 7 c, .slice A9 (np + 1) c9, .slice none 0 0]) (hn : np = LP.length ∧ np ≤ cp ∧ np ≤ 12)
    (hp : Rls W (.slice Ap np cp) LP) (h7 : Rls W (.slice (some ⟨g, o, none⟩) 7 c) L) (hl : L.length = 7) (hR : Rw B W (.slice A9 (np + 1) c9) (np + 1) (vsp ++ [(u1, u2)]))
    (hkp : ∀ (i : Nat) r, LP[i]? = some r → ∃ p, vsp[i]? = some p ∧ Rk W p.1 p.2 r) (hk2 : Rk W u1 u2 r2) : LsV [.slice Ap np cp, .slice (some ⟨g, o, none⟩) 2 c, .slice (some ⟨g, o, none⟩) 7 c, .slice A9 (np + 1) c9, .slice none 0 0] gL W := by
  refine ⟨hL, fun i hi => ?_⟩
  have hlv : vsp.length = LP.length := by have := hR.len; simp at this; omega
  match i, hi with
  | 0, _ => exact ⟨_, _, _, LP, rfl, hp, by omega⟩
  | 1, _ => exact ⟨_, _, _, L.take 2, rfl, h7.take 2 (by omega), by rw [List.length_take]; omega⟩
  | 2, _ => exact ⟨_, _, _, L, rfl, h7, by omega⟩
  | 3, _ => exact ⟨_, _, _, LP ++ [r2], rfl, hR.rls (by simp; omega) (pt_more hlv hkp hk2), by simp; omega⟩
  | 4, _ => exact ⟨none, 0, 0, [], rfl, ⟨none, 0, [], rfl, Nat.le_refl _, fun _ => rfl, Rd.nil, rfl, fun i r h => by simp at h⟩, by simp⟩
theorem rls_mk {W : World} {A : Option Addr} {n c : Nat} {vs : List (Value × Value)} {L : List Rt} (hn : n = L.length) (hc : n ≤ c) (hnil : A = none → c = 0) (hr : Rd W W.heap.size A (flat vs)) (hl : vs.length = n) (hk : ∀ (i : Nat) r, L[i]? = some r → ∃ p, vs[i]? = some p ∧ Rk W p.1 p.2 r) : Rls W (.slice A n c) L := by
  subst hn
  exact ⟨A, c, vs, rfl, hc, hnil, hr, hl, hk⟩
theorem wrap_bounds (x : Int) : -9223372036854775808 ≤ IntKind.i64.wrap x ∧ IntKind.i64.wrap x ≤ 9223372036854775807 := by
  rw [IntKind.wrap_i64]; omega
theorem bs0R (W : World) : (Instr.buildSlice 23 0 #[]).run Try.prog W = .ok (.slice (some ⟨W.heap.size, 0, none⟩) 0 0) (W.alloc (.cells #[] 28)) := by kernel_rfl
theorem bs1 (A1 : Option Addr) (n1 k1 : Nat) (A2 : Option Addr) (n2 k2 : Nat) (W : World) : (Instr.buildSlice 23 1 #[(0, .agg #[.slice A1 n1 k1, .slice A2 n2 k2])]).run Try.prog W = .ok (.slice (some ⟨W.heap.size, 0, none⟩) 1 1) (W.alloc (.cells #[.slice A1 n1 k1, .slice A2 n2 k2] 28)) := by kernel_rfl
theorem bs5 (A1 : Option Addr) (n1 k1 : Nat) (A2 : Option Addr) (n2 k2 : Nat) (A3 : Option Addr) (n3 k3 : Nat) (A4 : Option Addr) (n4 k4 : Nat) (A5 : Option Addr) (n5 k5 : Nat) (W : World) : (Instr.buildSlice 39 5 #[(0, .slice A1 n1 k1), (1, .slice A2 n2 k2), (2, .slice A3 n3 k3), (3, .slice A4 n4 k4), (4, .slice A5 n5 k5)]).run Try.prog W = .ok (.slice (some ⟨W.heap.size, 0, none⟩) 5 5) (W.alloc (.cells #[.slice A1 n1 k1, .slice A2 n2 k2, .slice A3 n3 k3, .slice A4 n4 k4, .slice A5 n5 k5] 23)) := by kernel_rfl
theorem bs6 (a b c d e f : Int) (W : World) : (Instr.buildSlice 37 6 #[(0, .int .i64 a), (1, .int .i64 b), (2, .int .i64 c), (3, .int .i64 d), (4, .int .i64 e), (5, .int .i64 f)]).run Try.prog W = .ok (.slice (some ⟨W.heap.size, 0, none⟩) 6 6) (W.alloc (.cells #[.int .i64 a, .int .i64 b, .int .i64 c, .int .i64 d, .int .i64 e, .int .i64 f] 3)) := by kernel_rfl
theorem Rw.lit {B : Nat} {W : World} (h : B ≤ W.heap.size) : Rw B (W.alloc (.cells #[] 28)) (.slice (some ⟨W.heap.size, 0, none⟩) 0 0) 0 [] := by
  refine ⟨World.ownsRow_lit W #[] 0 h (by unfold maxLen; omega) rfl, fun g cur t f hg hc => ?_⟩
  have eg : W.heap.size = g := by simpa [Value.ownBlock] using hg
  subst eg
  have hx := (heap_alloc_new W _).symm.trans hc
  injection hx with hx
  injection hx with hx
  subst hx
  intro u hu; simp at hu
theorem below_put0 {B W : World} {g : Nat} (h : Below B.heap.size B W) (hg : B.heap.size ≤ g) (u v : Value) : Below B.heap.size B ((W.setCell ⟨g, 0, none⟩ u).setCell ⟨g, 1, none⟩ v) :=
  (h.setCell (p := ⟨g, 0, none⟩) hg u).setCell (p := ⟨g, 1, none⟩) hg v
set_option maxHeartbeats 8000000 in
theorem sums_walk {A0 A5 A6 : Option Addr} {N c0 n5 k5 n6 k6 : Nat} {LI : List Int} {lr lm : List Nat} (n m how by_ : Int) (w : World) (hM : MaxL w) (h2 : 2 < w.heap.size) (hn : -9223372036854775808 ≤ n ∧ n ≤ 9223372036854775807) (hm : -9223372036854775808 ≤ m ∧ m ≤ 9223372036854775807) (hh : -9223372036854775808 ≤ how ∧ how ≤ 9223372036854775807) (hb : -9223372036854775808 ≤ by_ ∧ by_ ≤ 9223372036854775807)
    (h0 : In w A0 N c0 LI) (hl0 : (N : Int) ≤ 9223372036854775807) (h5 : Sl w (.slice A5 n5 k5) lr) (h6 : Sl w (.slice A6 n6 k6) lm) (o5 : Ok lr) (o6 : Ok lm) (hl5 : n5 ≤ 9223372036854775807) (hl6 : n6 ≤ 9223372036854775807) : Calls Try.prog 4 #[.slice A0 N c0, .int .i64 n, .int .i64 m, .int .i64 how, .int .i64 by_, .slice A5 n5 k5, .slice A6 n6 k6] w (SmP w true) := by
  have HSm := Lib.hid (some_any (w := w) n m how by_ hn hm hh hb h5 h6 o5 o6 hl5 hl6)
  have HAh := Lib.hid (fun W => around_any how 20 W hh (by omega)); have HAb := Lib.hid (fun W => around_any by_ 3 W hb (by omega))
  have p1 := arI_lo how 20 (by omega); have p2 := arI_hi how 20 (by omega); have p3 := arI_lo by_ 3 (by omega); have p4 := arI_hi by_ 3 (by omega)
  obtain ⟨ah, hah⟩ : ∃ x, x = arI how 20 := ⟨_, rfl⟩
  obtain ⟨ab, hab⟩ : ∃ x, x = arI by_ 3 := ⟨_, rfl⟩
  rw [← hah] at HAh p1 p2
  rw [← hab] at HAb p3 p4
  have HPB := Lib.hid (show ∀ x ∈ [ah, by_, ab, 65536, 65537, -1], -9223372036854775808 ≤ x ∧ x ≤ 9223372036854775807 by intro x hx; simp only [List.mem_cons, List.not_mem_nil, or_false] at hx; omega)
  have HM := Lib.hid hM; have H2 := Lib.hid h2; have HIN := Lib.hid h0
  clear hM h2 hn hm hh hb h0 h5 h6 o5 o6 hl5 hl6 hah hab p1 p2 p3 p4
  go_enter Try.func4, Try.ntmps4
  go_wp2_with fail
  refine HSm.out.mono ?_
  rintro e w1 ⟨v, L, rfl, hL, hR, hb⟩
  have HRL := Lib.hid hR; have BW := Lib.hid hb; have HL7 := Lib.hid hL
  obtain ⟨g, o, c, rfl, hc7, hgl, hcs⟩ := rls_cells hR hL
  have HG := Lib.hid (And.intro hc7 hgl); have HCS := Lib.hid hcs
  have hc7I : (7 : Int) ≤ (c : Int) := by omega
  clear hR hb hL hgl hcs hc7 HSm
  go_upto_block 0 with fail
  go_cut [16] from 17 (fun s16 wx => Hid (Below w1.heap.size w1 wx ∧ ∃ L', L'.length ≤ 12 ∧ Rls wx s16 L'))
  case first =>
    go_wp2_with fail
    go_loopw [16, 17] (fun s16 s17 wr => ∃ i : Nat, i ≤ 12 ∧ s17 = .int .i64 ((i : Nat) : Int) ∧ Below w1.heap.size w1 wr ∧ PtR w1.heap.size s16 i wr) (fun _ s17 _ => 12 - (intOf s17).toNat)
    case atStart => exact ⟨0, Nat.zero_le _, rfl, Below.refl _ _, [], [], Rw.nil _ _, rfl, fun j r h => by simp at h⟩
    case round =>
      obtain ⟨i, hi, rfl, hbel, vs, Lx, hrw, hlx, hkx⟩ := hrel
      have RW := Lib.hid hrw; have KX := Lib.hid hkx; have HLX := Lib.hid hlx; have BR := Lib.hid hbel
      clear hrw hkx hlx hbel
      rcases Nat.lt_or_ge i N with hlt | hge
      · have hiN : (i : Int) < (N : Int) := by omega
        rcases Nat.lt_or_ge i 12 with h12 | h12
        · have hi12 : (i : Int) < 12 := by omega
          have hin := HIN.out
          obtain ⟨x, hx⟩ : ∃ x, LI[i]? = some x := ⟨LI[i]'(by rw [hin.1]; exact hlt), List.getElem?_eq_getElem _⟩
          obtain ⟨g0, o0, e0, hg0, hcell0⟩ := hin.2.2.2 (by intro e; rw [e] at hx; simp at hx)
          have hcl := ((below_step BW.out BR.out).cell (p := ⟨g0, o0 + i, none⟩) hg0).trans (hcell0 i x hx)
          have hxb := hin.2.2.1 x (List.mem_of_getElem? hx)
          obtain ⟨z, hz⟩ : ∃ z, IntKind.i64.wrap (n + (i : Int)) = z := ⟨_, rfl⟩
          have hzb : -9223372036854775808 ≤ z ∧ z ≤ 9223372036854775807 := by rw [← hz]; exact wrap_bounds _
          have HPx := Lib.hid (fun W => part_ref x z W hxb hzb)
          have HI := Lib.hid (show i + 1 ≤ 12 by omega)
          subst e0
          clear hin hx hg0 hcell0 hxb hzb h12 hlt hi
          go_wp2_with fail
          refine (HPx.out _).mono ?_
          rintro e w2 ⟨px, py, u1, u2, rfl, hk, hv, _, hb⟩
          obtain ⟨C1, m1, j1, e1⟩ := sl_form hk.s1
          obtain ⟨C2, m2, j2, e2⟩ := sl_form hk.s2
          subst e1 e2
          have hbs := bs1 C1 m1 j1 C2 m2 j2 w2
          have hal := below_al w2 (.cells #[.slice C1 m1 j1, .slice C2 m2 j2] 28)
          have hb2 := below_step hb hal
          have RW3 := Lib.hid (RW.out.below hb2); have K3 := Lib.hid (hk.below hal); have BR3 := Lib.hid (below_step BR.out hb2)
          have KX3 := Lib.hid (fun j r (h : Lx[j]? = some r) => (KX.out j r h).imp fun p q => And.intro q.1 (q.2.below hb2))
          have HRD := Lib.hid ((Rd.of_blk0 (Blk.new w2 28 [.slice C1 m1 j1, .slice C2 m2 j2])).more (Blk.new w2 28 [.slice C1 m1 j1, .slice C2 m2 j2]).lt)
          have HSL := Lib.hid (show ∀ p ∈ [((.slice C1 m1 j1 : Value), (.slice C2 m2 j2 : Value))], isSl p.1 = true ∧ isSl p.2 = true by intro p hp; simp at hp; subst hp; exact ⟨rfl, rfl⟩)
          have HBY := Lib.hid (show i + 1 ≤ 1000000 by have := HI.out; omega)
          clear hk hv hb hal hb2 RW KX BR HPx hcl hz
          go_wp2_with (at_builtin; (refine wpList_app_rw rfl (.tmp 48) (.tmp 57) rfl _ i vs rfl RW3.out (some ⟨w2.heap.size, 0, none⟩) 1 1 [(.slice C1 m1 j1, .slice C2 m2 j2)] rfl rfl (fun e => by cases e) HRD.out HSL.out HBY.out BR3.out.size ?_))
          intro v' w3 hR hg hat
          have BR4 := Lib.hid (BR3.out.grown hg BR3.out.size (fun q e => (RW3.out.own.lt q e).1))
          have PT := Lib.hid (show PtR w1.heap.size v' (i + 1) w3 from ⟨_, Lx ++ [(lim px, dl py)], hR, by rw [List.length_append, HLX.out]; rfl, pt_more (RW3.out.len.trans HLX.out.symm) (fun j r h => (KX3.out j r h).imp fun p q => ⟨q.1, q.2.grown_rw RW3.out hg⟩) (K3.out.grown_rw RW3.out hg)⟩)
          clear hR hg hat hbs RW3 K3 KX3 BR3 HRD HSL HBY
          go_wp2_with fail
          go_roundw
          case rel => exact ⟨i + 1, HI.out, by simp, BR4.out, PT.out⟩
          case measure => simp only [intOf]; omega
        · have hi12 : ¬ ((i : Int) < 12) := by omega
          have HF := Lib.hid (show Below w1.heap.size w1 wr ∧ ∃ L' : List Rt, L'.length ≤ 12 ∧ Rls wr u16 L' from ⟨BR.out, Lx, by rw [HLX.out]; exact hi, RW.out.rls HLX.out KX.out⟩)
          clear h12 hlt hi
          go_wp2_with fail
          go_meet
          exact HF
      · have hiN : ¬ ((i : Int) < (N : Int)) := by omega
        have HF := Lib.hid (show Below w1.heap.size w1 wr ∧ ∃ L' : List Rt, L'.length ≤ 12 ∧ Rls wr u16 L' from ⟨BR.out, Lx, by rw [HLX.out]; exact hi, RW.out.rls HLX.out KX.out⟩)
        clear hge hi
        go_wp2_with fail
        go_meet
        exact HF
  case rest =>
    obtain ⟨hb7, LP, hlp12, hrp7⟩ := hcut.out
    obtain ⟨Ap, cp, vsp, e16, hcp, hnp, hrp0, hlp, hkp⟩ := hrp7
    obtain ⟨np, hnpL⟩ : ∃ n, n = LP.length := ⟨_, rfl⟩
    rw [← hnpL] at e16 hlp hcp
    subst e16
    have hslp : ∀ p ∈ vsp, isSl p.1 = true ∧ isSl p.2 = true := by
      intro p hp
      obtain ⟨j, hj, rfl⟩ := List.mem_iff_getElem.1 hp
      obtain ⟨q, hq, hkq⟩ := hkp j (LP[j]'(by omega)) (List.getElem?_eq_getElem _)
      rw [List.getElem?_eq_getElem hj] at hq
      injection hq with hq
      subst hq
      exact ⟨hkq.s1.slV, hkq.s2.slV⟩
    have hnp12 : np ≤ 12 := by omega
    have B7 := Lib.hid hb7; have HNP := Lib.hid (show np = LP.length ∧ np ≤ cp ∧ np ≤ 12 from ⟨hnpL, hcp, hnp12⟩)
    obtain ⟨A1, n1, k1, A2, n2, k2, r2, hr2, c4', c5', hk2⟩ := HCS.out 2 (by omega)
    have HK2 := Lib.hid hk2
    have HLR2 := Lib.hid hr2
    have c4 := (hb7.cell (p := ⟨g, o + 4, none⟩) HG.out.2).trans c4'
    have c5 := (hb7.cell (p := ⟨g, o + 5, none⟩) HG.out.2).trans c5'
    have HS1 := Lib.hid (show ∀ p ∈ [((.slice A1 n1 k1 : Value), (.slice A2 n2 k2 : Value))], isSl p.1 = true ∧ isSl p.2 = true by intro p hp; simp at hp; subst hp; exact ⟨rfl, rfl⟩)
    have HRP := Lib.hid True.intro
    clear hcut hb7 hlp12 hcp hnpL hk2 hr2 c4' c5'
    go_upto_region 7 with fail
    go_cut [18] from 19 (fun s18 wx => ∃ gL LC, s18 = .slice (some ⟨gL, 0, none⟩) 5 5 ∧ Hid (Below w1.heap.size w1 wx ∧ LsV LC gL wx))
    case first =>
      refine wp_region_held (S := fun W => W.cell? ⟨g, o + 4, none⟩ = some (.slice A1 n1 k1) ∧ W.cell? ⟨g, o + 5, none⟩ = some (.slice A2 n2 k2)) (by kernel_rfl) ?_
      change wpAnyH _ _ _ _ _ _ _ _ (World.drew wc)
      have hs0 : (World.drew wc).cell? ⟨g, o + 4, none⟩ = some (.slice A1 n1 k1) ∧ (World.drew wc).cell? ⟨g, o + 5, none⟩ = some (.slice A2 n2 k2) := ⟨c4, c5⟩
      have B7d : Hid (Below w1.heap.size w1 (World.drew wc)) := Lib.hid (below_drewN B7.out 1)
      have hrp : Rd (World.drew wc) (World.drew wc).heap.size Ap (flat vsp) := hrp0.below (below_drewN (Below.refl _ _) 1)
      have HKP := Lib.hid (show ∀ (i : Nat) r, LP[i]? = some r → ∃ p, vsp[i]? = some p ∧ Rk (World.drew wc) p.1 p.2 r from fun i r h => (hkp i r h).imp fun p q => And.intro q.1 (q.2.below (below_drewN (Below.refl wc.heap.size wc) 1)))
      have HGd := Lib.hid (show g < (World.drew wc).heap.size by have := HG.out.2; have := B7d.out.size; omega)
      clear B7 HRP hkp hrp0
      generalize World.drew wc = Wd at hs0 B7d hrp HKP HGd ⊢
      have HSD := Lib.hid hs0
      have k0 := Lib.hid (Below.refl Wd.heap.size Wd)
      obtain ⟨bs, hbs⟩ : ∃ b, b = Wd.heap.size := ⟨_, rfl⟩
      have HBS := Lib.hid hbs
      clear hbs
      have HPR := Lib.hid (fun W (h : Below Wd.heap.size Wd W) => (hrp.below h).more h.size)
      have HPL := Lib.hid (show vsp.length = np ∧ (Ap = none → cp = 0) ∧ (∀ p ∈ vsp, isSl p.1 = true ∧ isSl p.2 = true) ∧ 0 + np ≤ 1000000 from ⟨hlp, hnp, hslp, by omega⟩)
      have HLS := Lib.hid (show ∀ (W : World) (gL : Nat) (A9 : Option Addr) (c9 : Nat), Below Wd.heap.size Wd W → Blk W gL 23 [.slice Ap np cp, .slice (some ⟨g, o, none⟩) 2 c, .slice (some ⟨g, o, none⟩) 7 c, .slice A9 (np + 1) c9, .slice none 0 0] → Rw bs W (.slice A9 (np + 1) c9) (np + 1) (vsp ++ [(.slice A1 n1 k1, .slice A2 n2 k2)]) →
          LsV [.slice Ap np cp, .slice (some ⟨g, o, none⟩) 2 c, .slice (some ⟨g, o, none⟩) 7 c, .slice A9 (np + 1) c9, .slice none 0 0] gL W from fun W gL A9 c9 k hL hR =>
        lists_rel (LP := LP) (L := L) hL HNP.out (rls_mk HNP.out.1 HNP.out.2.1 hnp ((hrp.below k).more k.size) hlp (fun i r h => (HKP.out i r h).imp fun p q => ⟨q.1, q.2.below k⟩)) ((HRL.out.below B7d.out).below k) HL7.out hR (fun i r h => (HKP.out i r h).imp fun p q => ⟨q.1, q.2.below k⟩) ((HK2.out.below B7d.out).below k))
      clear hs0 hrp hlp hnp hslp
      have hs0 := HSD.out
      refine wpAnyH_take (i := 0) (oi := { dst := some 59, op := Op.move (Operand.tmp 16), type := 23, pos := "law.go:115", after := #[], guard := none }) (v := .slice Ap np cp) rfl (by kernel_rfl) (by kernel_rfl) (by kernel_rfl) (fun _ _ _ h => h) (Or.inl ⟨by rfl, fun W hW => ?y1⟩) hs0 ?_
      case y1 => go_simp
      try dsimp only [Act.put]
      try simp only [List.setIfInBounds_toArray, List.set_cons_zero, List.set_cons_succ]
      refine wpAnyH_take (i := 1) (oi := { dst := some 60, op := Op.move (Operand.tmp 15), type := 23, pos := "law.go:115", after := #[], guard := none }) (v := .slice (some ⟨g, o, none⟩) 7 c) rfl (by kernel_rfl) (by kernel_rfl) (by kernel_rfl) (fun _ _ _ h => h) (Or.inl ⟨by rfl, fun W hW => ?y2⟩) hs0 ?_
      case y2 => go_simp
      try dsimp only [Act.put]
      try simp only [List.setIfInBounds_toArray, List.set_cons_zero, List.set_cons_succ]
      refine wpAnyH_take (i := 2) (oi := { dst := some 61, op := Op.slice 23 (Operand.tmp 60) none (some (Operand.const (Value.int IntKind.i64 2))) none, type := 23, pos := "law.go:115", after := #[{ on := 1, ground := Ground.data }], guard := none }) (v := .slice (some ⟨g, o, none⟩) 2 c) rfl (by kernel_rfl) (by kernel_rfl) (by kernel_rfl) (fun _ _ _ h => h) (Or.inl ⟨by rfl, fun W hW => by go_simp; intro h; exact absurd h (by omega)⟩) hs0 ?_
      try dsimp only [Act.put]
      try simp only [List.setIfInBounds_toArray, List.set_cons_zero, List.set_cons_succ]
      refine wpAnyH_take (i := 3) (oi := { dst := some 62, op := Op.move (Operand.tmp 15), type := 23, pos := "law.go:115", after := #[], guard := none }) (v := .slice (some ⟨g, o, none⟩) 7 c) rfl (by kernel_rfl) (by kernel_rfl) (by kernel_rfl) (fun _ _ _ h => h) (Or.inl ⟨by rfl, fun W hW => ?y4⟩) hs0 ?_
      case y4 => go_simp
      try dsimp only [Act.put]
      try simp only [List.setIfInBounds_toArray, List.set_cons_zero, List.set_cons_succ]
      refine wpAnyH_take (i := 5) (oi := { dst := some 64, op := Op.move (Operand.tmp 16), type := 23, pos := "law.go:115", after := #[], guard := none }) (v := .slice Ap np cp) rfl (by kernel_rfl) (by kernel_rfl) (by kernel_rfl) (fun _ _ _ h => h) (Or.inl ⟨by rfl, fun W hW => ?y5⟩) hs0 ?_
      case y5 => go_simp
      try dsimp only [Act.put]
      try simp only [List.setIfInBounds_toArray, List.set_cons_zero, List.set_cons_succ]
      refine wpAnyH_take (i := 7) (oi := { dst := some 66, op := Op.move (Operand.tmp 15), type := 23, pos := "law.go:115", after := #[], guard := none }) (v := .slice (some ⟨g, o, none⟩) 7 c) rfl (by kernel_rfl) (by kernel_rfl) (by kernel_rfl) (fun _ _ _ h => h) (Or.inl ⟨by rfl, fun W hW => ?y6⟩) hs0 ?_
      case y6 => go_simp
      try dsimp only [Act.put]
      try simp only [List.setIfInBounds_toArray, List.set_cons_zero, List.set_cons_succ]
      refine wpAnyH_take (i := 8) (oi := { dst := some 67, op := Op.indexAddr 23 (Operand.tmp 66) (Operand.const (Value.int IntKind.i64 2)), type := 0, pos := "law.go:115", after := #[{ on := 7, ground := Ground.data }], guard := none }) (v := .pointer (some ⟨g, o + 4, none⟩)) rfl (by kernel_rfl) (by kernel_rfl) (by kernel_rfl) (fun _ _ _ h => h) (Or.inl ⟨by rfl, fun W hW => ?y7⟩) hs0 ?_
      case y7 => go_simp
      try dsimp only [Act.put]
      try simp only [List.setIfInBounds_toArray, List.set_cons_zero, List.set_cons_succ]
      refine wpAnyH_take (i := 9) (oi := { dst := some 68, op := Op.load 28 (Operand.tmp 67), type := 28, pos := "law.go:115", after := #[{ on := 8, ground := Ground.data }], guard := none }) (v := .agg #[.slice A1 n1 k1, .slice A2 n2 k2]) rfl (by kernel_rfl) (by kernel_rfl) (by kernel_rfl) (fun _ _ _ h => h) (Or.inl ⟨by rfl, fun W hW => by have hc1 := hW.1; have hc2 := hW.2; go_simp⟩) hs0 ?_
      try dsimp only [Act.put]
      try simp only [List.setIfInBounds_toArray, List.set_cons_zero, List.set_cons_succ]
      refine wpAnyH_ready (rs := [4, 10]) (by kernel_rfl) (by simp) ?_
      refine AllReadyH.cons (o := { dst := some 63, op := Op.buildSlice 23 0 #[], type := 23, pos := "law.go:115", after := #[], guard := none }) rfl (fun K hK => ?_) (AllReadyH.cons (o := { dst := some 69, op := Op.buildSlice 23 1 #[(0, Operand.tmp 68)], type := 23, pos := "law.go:115", after := #[{ on := 9, ground := Ground.data }], guard := none }) rfl (fun K hK => ?_) AllReadyH.nil)
      · rw [if_pos (by rfl)]
        refine wp_bs rfl (by simp) (bs0R Wd) ?_
        have hbt := below_al Wd (.cells #[] 28)
        have k11 := Lib.hid (below_step k0.out hbt)
        have hs13 := And.intro ((k11.out.cell (p := ⟨g, o + 4, none⟩) HGd.out).trans HSD.out.1) ((k11.out.cell (p := ⟨g, o + 5, none⟩) HGd.out).trans HSD.out.2)
        have R12 := Lib.hid (Rw.lit (B := bs) (W := Wd) (by have h1 := HBS.out; have h2 := k0.out.size; omega))
        obtain ⟨gl10, hgq⟩ : ∃ g, Wd.heap.size = g := ⟨_, rfl⟩
        obtain ⟨u9, hW⟩ : ∃ W', Wd.alloc (.cells #[] 28) = W' := ⟨_, rfl⟩
        rw [hW] at k11 hs13 R12 ⊢
        rw [hgq] at R12 ⊢
        clear hbt hgq hW
        refine hK.out _ _ hs13 (fun _ => ?_)
        clear hK K
        try dsimp only [Act.put]
        try simp only [List.setIfInBounds_toArray, List.set_cons_zero, List.set_cons_succ]
        refine wpAnyH_ready (rs := [6, 10]) (by kernel_rfl) (by simp) ?_
        refine AllReadyH.cons (o := { dst := some 65, op := Op.call { callee := Callee.builtin Builtin.append, args := #[Operand.tmp 63, Operand.tmp 64], argTypes := #[23, 23] }, type := 23, pos := "law.go:115", after := #[{ on := 4, ground := Ground.data }, { on := 5, ground := Ground.data }], guard := none }) rfl (fun K hK => ?_) (AllReadyH.cons (o := { dst := some 69, op := Op.buildSlice 23 1 #[(0, Operand.tmp 68)], type := 23, pos := "law.go:115", after := #[{ on := 9, ground := Ground.data }], guard := none }) rfl (fun K hK => ?_) AllReadyH.nil)
        · rw [if_pos (by rfl)]
          refine wp_app_rw (.tmp 63) (.tmp 64) rfl (.slice (some ⟨gl10, 0, none⟩) 0 0) 0 [] rfl R12.out Ap np cp vsp rfl HPL.out.1 HPL.out.2.1 (HPR.out _ k11.out) HPL.out.2.2.1 HPL.out.2.2.2 (by have h1 := HBS.out; have h2 := k11.out.size; omega) ?_
          intro v15 w14 hR hg hat
          rw [Nat.zero_add, List.nil_append] at hR
          have k16 := Lib.hid (k11.out.grown hg k11.out.size (fun q e => by have h1 := (R12.out.own.lt q e).1; have h2 := HBS.out; omega))
          have hs18 := And.intro ((k16.out.cell (p := ⟨g, o + 4, none⟩) HGd.out).trans HSD.out.1) ((k16.out.cell (p := ⟨g, o + 5, none⟩) HGd.out).trans HSD.out.2)
          have R17 := Lib.hid hR
          clear hR hg hat
          refine hK.out _ _ hs18 (fun _ => ?_)
          clear hK K
          try dsimp only [Act.put]
          try simp only [List.setIfInBounds_toArray, List.set_cons_zero, List.set_cons_succ]
          refine wpAnyH_ready (rs := [10]) (by kernel_rfl) (by simp) ?_
          refine AllReadyH.cons (o := { dst := some 69, op := Op.buildSlice 23 1 #[(0, Operand.tmp 68)], type := 23, pos := "law.go:115", after := #[{ on := 9, ground := Ground.data }], guard := none }) rfl (fun K hK => ?_) AllReadyH.nil
          rw [if_pos (by rfl)]
          refine wp_bs rfl (by simp [Act.eval]) (bs1 A1 n1 k1 A2 n2 k2 w14) ?_
          have hbt := below_al w14 (.cells #[.slice A1 n1 k1, .slice A2 n2 k2] 28)
          have k21 := Lib.hid (below_step k16.out hbt)
          have hs23 := And.intro ((k21.out.cell (p := ⟨g, o + 4, none⟩) HGd.out).trans HSD.out.1) ((k21.out.cell (p := ⟨g, o + 5, none⟩) HGd.out).trans HSD.out.2)
          have X22 := Lib.hid (Blk.new w14 28 [.slice A1 n1 k1, .slice A2 n2 k2])
          have R24 := Lib.hid (R17.out.below hbt)
          obtain ⟨gx20, hgq⟩ : ∃ g, w14.heap.size = g := ⟨_, rfl⟩
          obtain ⟨u19, hW⟩ : ∃ W', w14.alloc (.cells #[.slice A1 n1 k1, .slice A2 n2 k2] 28) = W' := ⟨_, rfl⟩
          rw [hW] at k21 hs23 X22 R24 ⊢
          rw [hgq] at X22 ⊢
          clear hbt hgq hW
          refine hK.out _ _ hs23 (fun _ => ?_)
          clear hK K
          try dsimp only [Act.put]
          try simp only [List.setIfInBounds_toArray, List.set_cons_zero, List.set_cons_succ]
          refine wpAnyH_ready (rs := [11]) (by kernel_rfl) (by simp) ?_
          refine AllReadyH.cons (o := { dst := some 70, op := Op.call { callee := Callee.builtin Builtin.append, args := #[Operand.tmp 65, Operand.tmp 69], argTypes := #[23, 23] }, type := 23, pos := "law.go:115", after := #[{ on := 6, ground := Ground.data }, { on := 10, ground := Ground.data }, { on := 6, ground := Ground.chain }], guard := none }) rfl (fun K hK => ?_) AllReadyH.nil
          rw [if_pos (by rfl)]
          refine wp_app_rw (.tmp 65) (.tmp 69) rfl v15 np vsp rfl R24.out (some ⟨gx20, 0, none⟩) 1 1 [(.slice A1 n1 k1, .slice A2 n2 k2)] rfl rfl (fun e => by cases e) ((Rd.of_blk0 X22.out).more X22.out.lt) HS1.out (by have := HPL.out.2.2.2; omega) (by have h1 := HBS.out; have h2 := k21.out.size; omega) ?_
          intro v26 w25 hR hg hat
          have k27 := Lib.hid (k21.out.grown hg k21.out.size (fun q e => by have h1 := (R24.out.own.lt q e).1; have h2 := HBS.out; omega))
          have hs29 := And.intro ((k27.out.cell (p := ⟨g, o + 4, none⟩) HGd.out).trans HSD.out.1) ((k27.out.cell (p := ⟨g, o + 5, none⟩) HGd.out).trans HSD.out.2)
          obtain ⟨A9, c9, e9, _, _, _⟩ := own_form hR.own
          subst e9
          have R28 := Lib.hid hR
          clear hR hg hat
          refine hK.out _ _ hs29 (fun _ => ?_)
          clear hK K
          try dsimp only [Act.put]
          try simp only [List.setIfInBounds_toArray, List.set_cons_zero, List.set_cons_succ]
          refine wpAnyH_ready (rs := [12]) (by kernel_rfl) (by simp) ?_
          refine AllReadyH.cons (o := { dst := some 71, op := Op.buildSlice 39 5 #[(0, Operand.tmp 59), (1, Operand.tmp 61), (2, Operand.tmp 62), (3, Operand.tmp 70), (4, Operand.const (Value.slice none 0 0))], type := 39, pos := "law.go:115", after := #[{ on := 0, ground := Ground.data }, { on := 2, ground := Ground.data }, { on := 3, ground := Ground.data }, { on := 11, ground := Ground.data }], guard := none }) rfl (fun K hK => ?_) AllReadyH.nil
          rw [if_pos (by rfl)]
          refine wp_bs rfl (by simp [Act.eval]) (bs5 Ap np cp (some ⟨g, o, none⟩) 2 c (some ⟨g, o, none⟩) 7 c A9 (np + 1) c9 none 0 0 w25) ?_
          have hbt := below_al w25 (.cells #[.slice Ap np cp, .slice (some ⟨g, o, none⟩) 2 c, .slice (some ⟨g, o, none⟩) 7 c, .slice A9 (np + 1) c9, .slice none 0 0] 23)
          have k31 := Lib.hid (below_step k27.out hbt)
          have hs33 := And.intro ((k31.out.cell (p := ⟨g, o + 4, none⟩) HGd.out).trans HSD.out.1) ((k31.out.cell (p := ⟨g, o + 5, none⟩) HGd.out).trans HSD.out.2)
          have R32 := Lib.hid (R28.out.below hbt)
          have HL := Lib.hid (Blk.new w25 23 [.slice Ap np cp, .slice (some ⟨g, o, none⟩) 2 c, .slice (some ⟨g, o, none⟩) 7 c, .slice A9 (np + 1) c9, .slice none 0 0])
          obtain ⟨gL, hgq⟩ : ∃ g, w25.heap.size = g := ⟨_, rfl⟩
          obtain ⟨u30, hW⟩ : ∃ W', w25.alloc (.cells #[.slice Ap np cp, .slice (some ⟨g, o, none⟩) 2 c, .slice (some ⟨g, o, none⟩) 7 c, .slice A9 (np + 1) c9, .slice none 0 0] 23) = W' := ⟨_, rfl⟩
          have hW2 : w25.alloc (.cells [.slice Ap np cp, .slice (some ⟨g, o, none⟩) 2 c, .slice (some ⟨g, o, none⟩) 7 c, .slice A9 (np + 1) c9, .slice none 0 0].toArray 23) = u30 := hW
          rw [hW2] at HL
          rw [hW] at k31 hs33 R32 ⊢
          rw [hgq] at HL ⊢
          clear hbt hgq hW hW2
          refine hK.out _ _ hs33 (fun _ => ?_)
          clear hK K
          try dsimp only [Act.put]
          try simp only [List.setIfInBounds_toArray, List.set_cons_zero, List.set_cons_succ]
          refine wpAnyH_take (i := 13) (oi := { dst := some 18, op := Op.assign (Operand.tmp 71), type := 39, pos := "law.go:115", after := #[{ on := 12, ground := Ground.data }, { on := 11, ground := Ground.chain }, { on := 0, ground := Ground.phase }, { on := 1, ground := Ground.phase }, { on := 2, ground := Ground.phase }, { on := 3, ground := Ground.phase }, { on := 4, ground := Ground.phase }, { on := 5, ground := Ground.phase }, { on := 6, ground := Ground.phase }, { on := 7, ground := Ground.phase }, { on := 8, ground := Ground.phase }, { on := 9, ground := Ground.phase }, { on := 10, ground := Ground.phase }, { on := 11, ground := Ground.phase }, { on := 12, ground := Ground.phase }], guard := none }) (v := .slice (some ⟨gL, 0, none⟩) 5 5) rfl (by kernel_rfl) (by kernel_rfl) (by kernel_rfl) (fun _ _ _ h => h) (Or.inl ⟨by rfl, fun W hW => ?y34⟩) hs33 ?_
          case y34 => go_simp
          try dsimp only [Act.put]
          try simp only [List.setIfInBounds_toArray, List.set_cons_zero, List.set_cons_succ]
          refine wpAnyH_done (by kernel_rfl) ?_ _
          try dsimp only [Act.put]
          try simp only [List.setIfInBounds_toArray, List.set_cons_zero, List.set_cons_succ]
          go_wp2_with fail
          go_meet
          exact ⟨gL, _, rfl, Lib.hid ⟨B7d.out.trans (k31.out.mono B7d.out.size), HLS.out _ _ _ _ k31.out HL.out R32.out⟩⟩
        · rw [if_pos (by rfl)]
          refine wp_bs rfl (by simp [Act.eval]) (bs1 A1 n1 k1 A2 n2 k2 u9) ?_
          have hbt := below_al u9 (.cells #[.slice A1 n1 k1, .slice A2 n2 k2] 28)
          have k37 := Lib.hid (below_step k11.out hbt)
          have hs39 := And.intro ((k37.out.cell (p := ⟨g, o + 4, none⟩) HGd.out).trans HSD.out.1) ((k37.out.cell (p := ⟨g, o + 5, none⟩) HGd.out).trans HSD.out.2)
          have X38 := Lib.hid (Blk.new u9 28 [.slice A1 n1 k1, .slice A2 n2 k2])
          have R40 := Lib.hid (R12.out.below hbt)
          have NE41 := Lib.hid (show u9.heap.size ≠ gl10 from Nat.ne_of_gt ((R12.out.own.lt _ rfl).2))
          obtain ⟨gx36, hgq⟩ : ∃ g, u9.heap.size = g := ⟨_, rfl⟩
          obtain ⟨u35, hW⟩ : ∃ W', u9.alloc (.cells #[.slice A1 n1 k1, .slice A2 n2 k2] 28) = W' := ⟨_, rfl⟩
          rw [hW] at k37 hs39 X38 R40 ⊢
          rw [hgq] at X38 NE41 ⊢
          clear hbt hgq hW
          refine hK.out _ _ hs39 (fun _ => ?_)
          clear hK K
          try dsimp only [Act.put]
          try simp only [List.setIfInBounds_toArray, List.set_cons_zero, List.set_cons_succ]
          refine wpAnyH_ready (rs := [6]) (by kernel_rfl) (by simp) ?_
          refine AllReadyH.cons (o := { dst := some 65, op := Op.call { callee := Callee.builtin Builtin.append, args := #[Operand.tmp 63, Operand.tmp 64], argTypes := #[23, 23] }, type := 23, pos := "law.go:115", after := #[{ on := 4, ground := Ground.data }, { on := 5, ground := Ground.data }], guard := none }) rfl (fun K hK => ?_) AllReadyH.nil
          rw [if_pos (by rfl)]
          refine wp_app_rw (.tmp 63) (.tmp 64) rfl (.slice (some ⟨gl10, 0, none⟩) 0 0) 0 [] rfl R40.out Ap np cp vsp rfl HPL.out.1 HPL.out.2.1 (HPR.out _ k37.out) HPL.out.2.2.1 HPL.out.2.2.2 (by have h1 := HBS.out; have h2 := k37.out.size; omega) ?_
          intro v43 w42 hR hg hat
          rw [Nat.zero_add, List.nil_append] at hR
          have k44 := Lib.hid (k37.out.grown hg k37.out.size (fun q e => by have h1 := (R40.out.own.lt q e).1; have h2 := HBS.out; omega))
          have hs46 := And.intro ((k44.out.cell (p := ⟨g, o + 4, none⟩) HGd.out).trans HSD.out.1) ((k44.out.cell (p := ⟨g, o + 5, none⟩) HGd.out).trans HSD.out.2)
          have R45 := Lib.hid hR
          have X47 := Lib.hid (X38.out.grown hg (by intro e; exact NE41.out (by simpa [Value.ownBlock] using e)))
          clear hR hg hat
          refine hK.out _ _ hs46 (fun _ => ?_)
          clear hK K
          try dsimp only [Act.put]
          try simp only [List.setIfInBounds_toArray, List.set_cons_zero, List.set_cons_succ]
          refine wpAnyH_ready (rs := [11]) (by kernel_rfl) (by simp) ?_
          refine AllReadyH.cons (o := { dst := some 70, op := Op.call { callee := Callee.builtin Builtin.append, args := #[Operand.tmp 65, Operand.tmp 69], argTypes := #[23, 23] }, type := 23, pos := "law.go:115", after := #[{ on := 6, ground := Ground.data }, { on := 10, ground := Ground.data }, { on := 6, ground := Ground.chain }], guard := none }) rfl (fun K hK => ?_) AllReadyH.nil
          rw [if_pos (by rfl)]
          refine wp_app_rw (.tmp 65) (.tmp 69) rfl v43 np vsp rfl R45.out (some ⟨gx36, 0, none⟩) 1 1 [(.slice A1 n1 k1, .slice A2 n2 k2)] rfl rfl (fun e => by cases e) ((Rd.of_blk0 X47.out).more X47.out.lt) HS1.out (by have := HPL.out.2.2.2; omega) (by have h1 := HBS.out; have h2 := k44.out.size; omega) ?_
          intro v49 w48 hR hg hat
          have k50 := Lib.hid (k44.out.grown hg k44.out.size (fun q e => by have h1 := (R45.out.own.lt q e).1; have h2 := HBS.out; omega))
          have hs52 := And.intro ((k50.out.cell (p := ⟨g, o + 4, none⟩) HGd.out).trans HSD.out.1) ((k50.out.cell (p := ⟨g, o + 5, none⟩) HGd.out).trans HSD.out.2)
          obtain ⟨A9, c9, e9, _, _, _⟩ := own_form hR.own
          subst e9
          have R51 := Lib.hid hR
          clear hR hg hat
          refine hK.out _ _ hs52 (fun _ => ?_)
          clear hK K
          try dsimp only [Act.put]
          try simp only [List.setIfInBounds_toArray, List.set_cons_zero, List.set_cons_succ]
          refine wpAnyH_ready (rs := [12]) (by kernel_rfl) (by simp) ?_
          refine AllReadyH.cons (o := { dst := some 71, op := Op.buildSlice 39 5 #[(0, Operand.tmp 59), (1, Operand.tmp 61), (2, Operand.tmp 62), (3, Operand.tmp 70), (4, Operand.const (Value.slice none 0 0))], type := 39, pos := "law.go:115", after := #[{ on := 0, ground := Ground.data }, { on := 2, ground := Ground.data }, { on := 3, ground := Ground.data }, { on := 11, ground := Ground.data }], guard := none }) rfl (fun K hK => ?_) AllReadyH.nil
          rw [if_pos (by rfl)]
          refine wp_bs rfl (by simp [Act.eval]) (bs5 Ap np cp (some ⟨g, o, none⟩) 2 c (some ⟨g, o, none⟩) 7 c A9 (np + 1) c9 none 0 0 w48) ?_
          have hbt := below_al w48 (.cells #[.slice Ap np cp, .slice (some ⟨g, o, none⟩) 2 c, .slice (some ⟨g, o, none⟩) 7 c, .slice A9 (np + 1) c9, .slice none 0 0] 23)
          have k54 := Lib.hid (below_step k50.out hbt)
          have hs56 := And.intro ((k54.out.cell (p := ⟨g, o + 4, none⟩) HGd.out).trans HSD.out.1) ((k54.out.cell (p := ⟨g, o + 5, none⟩) HGd.out).trans HSD.out.2)
          have R55 := Lib.hid (R51.out.below hbt)
          have HL := Lib.hid (Blk.new w48 23 [.slice Ap np cp, .slice (some ⟨g, o, none⟩) 2 c, .slice (some ⟨g, o, none⟩) 7 c, .slice A9 (np + 1) c9, .slice none 0 0])
          obtain ⟨gL, hgq⟩ : ∃ g, w48.heap.size = g := ⟨_, rfl⟩
          obtain ⟨u53, hW⟩ : ∃ W', w48.alloc (.cells #[.slice Ap np cp, .slice (some ⟨g, o, none⟩) 2 c, .slice (some ⟨g, o, none⟩) 7 c, .slice A9 (np + 1) c9, .slice none 0 0] 23) = W' := ⟨_, rfl⟩
          have hW2 : w48.alloc (.cells [.slice Ap np cp, .slice (some ⟨g, o, none⟩) 2 c, .slice (some ⟨g, o, none⟩) 7 c, .slice A9 (np + 1) c9, .slice none 0 0].toArray 23) = u53 := hW
          rw [hW2] at HL
          rw [hW] at k54 hs56 R55 ⊢
          rw [hgq] at HL ⊢
          clear hbt hgq hW hW2
          refine hK.out _ _ hs56 (fun _ => ?_)
          clear hK K
          try dsimp only [Act.put]
          try simp only [List.setIfInBounds_toArray, List.set_cons_zero, List.set_cons_succ]
          refine wpAnyH_take (i := 13) (oi := { dst := some 18, op := Op.assign (Operand.tmp 71), type := 39, pos := "law.go:115", after := #[{ on := 12, ground := Ground.data }, { on := 11, ground := Ground.chain }, { on := 0, ground := Ground.phase }, { on := 1, ground := Ground.phase }, { on := 2, ground := Ground.phase }, { on := 3, ground := Ground.phase }, { on := 4, ground := Ground.phase }, { on := 5, ground := Ground.phase }, { on := 6, ground := Ground.phase }, { on := 7, ground := Ground.phase }, { on := 8, ground := Ground.phase }, { on := 9, ground := Ground.phase }, { on := 10, ground := Ground.phase }, { on := 11, ground := Ground.phase }, { on := 12, ground := Ground.phase }], guard := none }) (v := .slice (some ⟨gL, 0, none⟩) 5 5) rfl (by kernel_rfl) (by kernel_rfl) (by kernel_rfl) (fun _ _ _ h => h) (Or.inl ⟨by rfl, fun W hW => ?y57⟩) hs56 ?_
          case y57 => go_simp
          try dsimp only [Act.put]
          try simp only [List.setIfInBounds_toArray, List.set_cons_zero, List.set_cons_succ]
          refine wpAnyH_done (by kernel_rfl) ?_ _
          try dsimp only [Act.put]
          try simp only [List.setIfInBounds_toArray, List.set_cons_zero, List.set_cons_succ]
          go_wp2_with fail
          go_meet
          exact ⟨gL, _, rfl, Lib.hid ⟨B7d.out.trans (k54.out.mono B7d.out.size), HLS.out _ _ _ _ k54.out HL.out R55.out⟩⟩
      · rw [if_pos (by rfl)]
        refine wp_bs rfl (by simp [Act.eval]) (bs1 A1 n1 k1 A2 n2 k2 Wd) ?_
        have hbt := below_al Wd (.cells #[.slice A1 n1 k1, .slice A2 n2 k2] 28)
        have k60 := Lib.hid (below_step k0.out hbt)
        have hs62 := And.intro ((k60.out.cell (p := ⟨g, o + 4, none⟩) HGd.out).trans HSD.out.1) ((k60.out.cell (p := ⟨g, o + 5, none⟩) HGd.out).trans HSD.out.2)
        have X61 := Lib.hid (Blk.new Wd 28 [.slice A1 n1 k1, .slice A2 n2 k2])
        obtain ⟨gx59, hgq⟩ : ∃ g, Wd.heap.size = g := ⟨_, rfl⟩
        obtain ⟨u58, hW⟩ : ∃ W', Wd.alloc (.cells #[.slice A1 n1 k1, .slice A2 n2 k2] 28) = W' := ⟨_, rfl⟩
        rw [hW] at k60 hs62 X61 ⊢
        rw [hgq] at X61 ⊢
        clear hbt hgq hW
        refine hK.out _ _ hs62 (fun _ => ?_)
        clear hK K
        try dsimp only [Act.put]
        try simp only [List.setIfInBounds_toArray, List.set_cons_zero, List.set_cons_succ]
        refine wpAnyH_ready (rs := [4]) (by kernel_rfl) (by simp) ?_
        refine AllReadyH.cons (o := { dst := some 63, op := Op.buildSlice 23 0 #[], type := 23, pos := "law.go:115", after := #[], guard := none }) rfl (fun K hK => ?_) AllReadyH.nil
        rw [if_pos (by rfl)]
        refine wp_bs rfl (by simp) (bs0R u58) ?_
        have hbt := below_al u58 (.cells #[] 28)
        have k65 := Lib.hid (below_step k60.out hbt)
        have hs67 := And.intro ((k65.out.cell (p := ⟨g, o + 4, none⟩) HGd.out).trans HSD.out.1) ((k65.out.cell (p := ⟨g, o + 5, none⟩) HGd.out).trans HSD.out.2)
        have R66 := Lib.hid (Rw.lit (B := bs) (W := u58) (by have h1 := HBS.out; have h2 := k60.out.size; omega))
        have X68 := Lib.hid (X61.out.below hbt X61.out.lt)
        have NE69 := Lib.hid (show gx59 ≠ u58.heap.size from Nat.ne_of_lt X61.out.lt)
        obtain ⟨gl64, hgq⟩ : ∃ g, u58.heap.size = g := ⟨_, rfl⟩
        obtain ⟨u63, hW⟩ : ∃ W', u58.alloc (.cells #[] 28) = W' := ⟨_, rfl⟩
        rw [hW] at k65 hs67 R66 X68 ⊢
        rw [hgq] at R66 NE69 ⊢
        clear hbt hgq hW
        refine hK.out _ _ hs67 (fun _ => ?_)
        clear hK K
        try dsimp only [Act.put]
        try simp only [List.setIfInBounds_toArray, List.set_cons_zero, List.set_cons_succ]
        refine wpAnyH_ready (rs := [6]) (by kernel_rfl) (by simp) ?_
        refine AllReadyH.cons (o := { dst := some 65, op := Op.call { callee := Callee.builtin Builtin.append, args := #[Operand.tmp 63, Operand.tmp 64], argTypes := #[23, 23] }, type := 23, pos := "law.go:115", after := #[{ on := 4, ground := Ground.data }, { on := 5, ground := Ground.data }], guard := none }) rfl (fun K hK => ?_) AllReadyH.nil
        rw [if_pos (by rfl)]
        refine wp_app_rw (.tmp 63) (.tmp 64) rfl (.slice (some ⟨gl64, 0, none⟩) 0 0) 0 [] rfl R66.out Ap np cp vsp rfl HPL.out.1 HPL.out.2.1 (HPR.out _ k65.out) HPL.out.2.2.1 HPL.out.2.2.2 (by have h1 := HBS.out; have h2 := k65.out.size; omega) ?_
        intro v71 w70 hR hg hat
        rw [Nat.zero_add, List.nil_append] at hR
        have k72 := Lib.hid (k65.out.grown hg k65.out.size (fun q e => by have h1 := (R66.out.own.lt q e).1; have h2 := HBS.out; omega))
        have hs74 := And.intro ((k72.out.cell (p := ⟨g, o + 4, none⟩) HGd.out).trans HSD.out.1) ((k72.out.cell (p := ⟨g, o + 5, none⟩) HGd.out).trans HSD.out.2)
        have R73 := Lib.hid hR
        have X75 := Lib.hid (X68.out.grown hg (by intro e; exact NE69.out (by simpa [Value.ownBlock] using e)))
        clear hR hg hat
        refine hK.out _ _ hs74 (fun _ => ?_)
        clear hK K
        try dsimp only [Act.put]
        try simp only [List.setIfInBounds_toArray, List.set_cons_zero, List.set_cons_succ]
        refine wpAnyH_ready (rs := [11]) (by kernel_rfl) (by simp) ?_
        refine AllReadyH.cons (o := { dst := some 70, op := Op.call { callee := Callee.builtin Builtin.append, args := #[Operand.tmp 65, Operand.tmp 69], argTypes := #[23, 23] }, type := 23, pos := "law.go:115", after := #[{ on := 6, ground := Ground.data }, { on := 10, ground := Ground.data }, { on := 6, ground := Ground.chain }], guard := none }) rfl (fun K hK => ?_) AllReadyH.nil
        rw [if_pos (by rfl)]
        refine wp_app_rw (.tmp 65) (.tmp 69) rfl v71 np vsp rfl R73.out (some ⟨gx59, 0, none⟩) 1 1 [(.slice A1 n1 k1, .slice A2 n2 k2)] rfl rfl (fun e => by cases e) ((Rd.of_blk0 X75.out).more X75.out.lt) HS1.out (by have := HPL.out.2.2.2; omega) (by have h1 := HBS.out; have h2 := k72.out.size; omega) ?_
        intro v77 w76 hR hg hat
        have k78 := Lib.hid (k72.out.grown hg k72.out.size (fun q e => by have h1 := (R73.out.own.lt q e).1; have h2 := HBS.out; omega))
        have hs80 := And.intro ((k78.out.cell (p := ⟨g, o + 4, none⟩) HGd.out).trans HSD.out.1) ((k78.out.cell (p := ⟨g, o + 5, none⟩) HGd.out).trans HSD.out.2)
        obtain ⟨A9, c9, e9, _, _, _⟩ := own_form hR.own
        subst e9
        have R79 := Lib.hid hR
        clear hR hg hat
        refine hK.out _ _ hs80 (fun _ => ?_)
        clear hK K
        try dsimp only [Act.put]
        try simp only [List.setIfInBounds_toArray, List.set_cons_zero, List.set_cons_succ]
        refine wpAnyH_ready (rs := [12]) (by kernel_rfl) (by simp) ?_
        refine AllReadyH.cons (o := { dst := some 71, op := Op.buildSlice 39 5 #[(0, Operand.tmp 59), (1, Operand.tmp 61), (2, Operand.tmp 62), (3, Operand.tmp 70), (4, Operand.const (Value.slice none 0 0))], type := 39, pos := "law.go:115", after := #[{ on := 0, ground := Ground.data }, { on := 2, ground := Ground.data }, { on := 3, ground := Ground.data }, { on := 11, ground := Ground.data }], guard := none }) rfl (fun K hK => ?_) AllReadyH.nil
        rw [if_pos (by rfl)]
        refine wp_bs rfl (by simp [Act.eval]) (bs5 Ap np cp (some ⟨g, o, none⟩) 2 c (some ⟨g, o, none⟩) 7 c A9 (np + 1) c9 none 0 0 w76) ?_
        have hbt := below_al w76 (.cells #[.slice Ap np cp, .slice (some ⟨g, o, none⟩) 2 c, .slice (some ⟨g, o, none⟩) 7 c, .slice A9 (np + 1) c9, .slice none 0 0] 23)
        have k82 := Lib.hid (below_step k78.out hbt)
        have hs84 := And.intro ((k82.out.cell (p := ⟨g, o + 4, none⟩) HGd.out).trans HSD.out.1) ((k82.out.cell (p := ⟨g, o + 5, none⟩) HGd.out).trans HSD.out.2)
        have R83 := Lib.hid (R79.out.below hbt)
        have HL := Lib.hid (Blk.new w76 23 [.slice Ap np cp, .slice (some ⟨g, o, none⟩) 2 c, .slice (some ⟨g, o, none⟩) 7 c, .slice A9 (np + 1) c9, .slice none 0 0])
        obtain ⟨gL, hgq⟩ : ∃ g, w76.heap.size = g := ⟨_, rfl⟩
        obtain ⟨u81, hW⟩ : ∃ W', w76.alloc (.cells #[.slice Ap np cp, .slice (some ⟨g, o, none⟩) 2 c, .slice (some ⟨g, o, none⟩) 7 c, .slice A9 (np + 1) c9, .slice none 0 0] 23) = W' := ⟨_, rfl⟩
        have hW2 : w76.alloc (.cells [.slice Ap np cp, .slice (some ⟨g, o, none⟩) 2 c, .slice (some ⟨g, o, none⟩) 7 c, .slice A9 (np + 1) c9, .slice none 0 0].toArray 23) = u81 := hW
        rw [hW2] at HL
        rw [hW] at k82 hs84 R83 ⊢
        rw [hgq] at HL ⊢
        clear hbt hgq hW hW2
        refine hK.out _ _ hs84 (fun _ => ?_)
        clear hK K
        try dsimp only [Act.put]
        try simp only [List.setIfInBounds_toArray, List.set_cons_zero, List.set_cons_succ]
        refine wpAnyH_take (i := 13) (oi := { dst := some 18, op := Op.assign (Operand.tmp 71), type := 39, pos := "law.go:115", after := #[{ on := 12, ground := Ground.data }, { on := 11, ground := Ground.chain }, { on := 0, ground := Ground.phase }, { on := 1, ground := Ground.phase }, { on := 2, ground := Ground.phase }, { on := 3, ground := Ground.phase }, { on := 4, ground := Ground.phase }, { on := 5, ground := Ground.phase }, { on := 6, ground := Ground.phase }, { on := 7, ground := Ground.phase }, { on := 8, ground := Ground.phase }, { on := 9, ground := Ground.phase }, { on := 10, ground := Ground.phase }, { on := 11, ground := Ground.phase }, { on := 12, ground := Ground.phase }], guard := none }) (v := .slice (some ⟨gL, 0, none⟩) 5 5) rfl (by kernel_rfl) (by kernel_rfl) (by kernel_rfl) (fun _ _ _ h => h) (Or.inl ⟨by rfl, fun W hW => ?y85⟩) hs84 ?_
        case y85 => go_simp
        try dsimp only [Act.put]
        try simp only [List.setIfInBounds_toArray, List.set_cons_zero, List.set_cons_succ]
        refine wpAnyH_done (by kernel_rfl) ?_ _
        try dsimp only [Act.put]
        try simp only [List.setIfInBounds_toArray, List.set_cons_zero, List.set_cons_succ]
        go_wp2_with fail
        go_meet
        exact ⟨gL, _, rfl, Lib.hid ⟨B7d.out.trans (k82.out.mono B7d.out.size), HLS.out _ _ _ _ k82.out HL.out R83.out⟩⟩
    case rest =>
      obtain ⟨gL, LC, rfl, hall⟩ := hcut
      have B7 := Lib.hid hall.out.1; have HLC := Lib.hid hall.out.2
      clear hall HK2 HS1 HRP HNP hnp hrp0 hlp hkp hslp hnp12 c4 c5
      go_wp2_with fail
      go_loopw [19] (fun s wr => ∃ i : Nat, i ≤ 5 ∧ s = .int .i64 ((i : Nat) : Int) ∧ Below wc.heap.size wc wr) (fun s _ => 5 - (intOf s).toNat)
      case atStart => exact ⟨0, Nat.zero_le _, rfl, Below.refl _ _⟩
      case round =>
        obtain ⟨i, hi, rfl, hbel⟩ := hrel
        have BR := Lib.hid hbel
        clear hbel
        rcases Nat.lt_or_ge i 5 with hlt | hge
        · have hiI : (i : Int) < 5 := by omega
          obtain ⟨A, q, cq, Lq, hLq, hRq, hlq⟩ := HLC.out.2 i hlt
          have hcl := (BR.out.cell (p := ⟨gL, i, none⟩) HLC.out.1.lt).trans ((Blk.cell HLC.out.1 i).trans hLq)
          obtain ⟨R, E, hRE⟩ : ∃ r e, sumR Lq = (r, e) := ⟨_, _, rfl⟩
          have HGD := Lib.hid (show Gd5 (R, E) by rw [← hRE]; exact gd_sum hRq.oks)
          have HO := Lib.hid (fun W (h : Below wc.heap.size wc W) => show Calls Try.prog 16 #[.slice A q cq] W (fun e w' => ∃ v, e = .returned (.tuple #[v, .int .i64 ((E : Nat) : Int)]) ∧ Rv w' v R ∧ Below W.heap.size W w') by have h := sum_any (hRq.below h) (by omega); rw [hRE] at h; exact h)
          have HQ := Lib.hid (fun W (h : Below wc.heap.size wc W) => show Calls Try.prog 17 #[.slice A q cq] W (fun e w' => ∃ v, e = .returned (.tuple #[v, .int .i64 ((E : Nat) : Int)]) ∧ Rv w' v R ∧ Below W.heap.size W w') by have h := rsum_any (hRq.below h) (by omega); rw [hRE] at h; exact h)
          have HCW := Lib.hid (fun W (h : Below wc.heap.size wc W) => (h.cell (p := ⟨gL, i, none⟩) HLC.out.1.lt).trans ((Blk.cell HLC.out.1 i).trans hLq))
          have HI := Lib.hid (show i + 1 ≤ 5 by omega)
          clear hLq hRq hlq hRE hlt hi
          go_wp2_with fail
          refine (HO.out _ BR.out).mono ?_
          rintro e w2 ⟨v, rfl, hrv, hb⟩
          obtain ⟨u1, u2, rfl, hk⟩ := gd_rk (X := (R, E)) hrv HGD.out
          obtain ⟨C1, m1, j1, e1⟩ := sl_form hk.s1
          obtain ⟨C2, m2, j2, e2⟩ := sl_form hk.s2
          subst e1 e2
          have B2 := Lib.hid (below_step BR.out hb); have K2 := Lib.hid hk
          clear hb hk hrv hcl BR HO
          go_upto_region 12 with fail
          have VA := Lib.hid (Bx.new K2.out); have B3 := Lib.hid (below_step B2.out (boxb w2 (.slice C1 m1 j1) (.slice C2 m2 j2)))
          clear B2 K2
          obtain ⟨ga, hga⟩ : ∃ g, w2.heap.size = g := ⟨_, rfl⟩
          obtain ⟨w3, hw3⟩ : ∃ W, w2.alloc (.cells #[.slice C1 m1 j1, .slice C2 m2 j2] 28) = W := ⟨_, rfl⟩
          rw [hw3] at VA B3 ⊢
          rw [hga] at VA ⊢
          clear hga hw3
          have hcl := HCW.out w3 B3.out
          go_wp2_with fail
          refine (HQ.out _ B3.out).mono ?_
          rintro e w4 ⟨v, rfl, hrv, hb⟩
          obtain ⟨u1, u2, rfl, hk⟩ := gd_rk (X := (R, E)) hrv HGD.out
          obtain ⟨D1, p1, q1, e1⟩ := sl_form hk.s1
          obtain ⟨D2, p2, q2, e2⟩ := sl_form hk.s2
          subst e1 e2
          have B4 := Lib.hid (below_step B3.out hb); have K4 := Lib.hid hk; have VA4 := Lib.hid (VA.out.below hb)
          clear hb hk hrv hcl B3 VA HQ HCW
          go_upto_region 13 with fail
          have VB := Lib.hid (Bx.new K4.out); have B5 := Lib.hid (below_step B4.out (boxb w4 (.slice D1 p1 q1) (.slice D2 p2 q2))); have VA := Lib.hid (VA4.out.below (boxb w4 (.slice D1 p1 q1) (.slice D2 p2 q2)))
          clear B4 K4 VA4
          obtain ⟨gb, hgb⟩ : ∃ g, w4.heap.size = g := ⟨_, rfl⟩
          obtain ⟨w5, hw5⟩ : ∃ W, w4.alloc (.cells #[.slice D1 p1 q1, .slice D2 p2 q2] 28) = W := ⟨_, rfl⟩
          rw [hw5] at VA VB B5 ⊢
          rw [hgb] at VB ⊢
          clear hgb hw5
          obtain ⟨hc1, hc2, hf1, hf2⟩ := blk_cells2 VA.out.b
          obtain ⟨hc3, hc4, hf3, hf4⟩ := blk_cells2 VB.out.b
          have hne : (((E : Nat) : Int) != ((E : Nat) : Int)) = false := by simp
          have hsm := rsame_any VA.out.k VB.out.k
          rw [decide_eq_true rfl] at hsm
          have HS := Lib.hid hsm
          clear hsm
          go_wp2_with fail
          refine HS.out.mono ?_
          rintro e w9 ⟨rfl, hb⟩
          have B9 := Lib.hid (below_step B5.out hb)
          clear hb HS hc1 hc2 hf1 hf2 hc3 hc4 hf3 hf4 VA VB B5 hne
          go_wp2_with fail
          go_roundw
          case rel =>
            have hr1 : ∃ q : Nat, q ≤ 5 ∧ (.int .i64 ((i : Int) + 1) : Value) = .int .i64 ((q : Nat) : Int) ∧ Below wc.heap.size wc w9 := ⟨i + 1, HI.out, by simp, B9.out⟩
            first | exact hr1 | ((repeat apply Exists.intro); exact ⟨hr1, rfl⟩)
          case measure => simp only [intOf]; omega
        · have hin : i = 5 := by omega
          subst hin
          have B8 := Lib.hid (B7.out.trans (BR.out.mono B7.out.size))
          clear hi hge BR B7 HLC
          have hbs := bs6 ah by_ ab 65536 65537 (-1) wr
          go_upto_region 16 with (go_at_call 10; first | ((with_reducible refine (HAh.out _).mono ?_); rintro e w' ⟨rfl, rfl⟩) | ((with_reducible refine (HAb.out _).mono ?_); rintro e w' ⟨rfl, rfl⟩))
          clear hbs HAh HAb
          have HP := Lib.hid (Blk.new wr 3 (PI [ah, by_, ab, 65536, 65537, -1]))
          have B9 := Lib.hid (B8.out.alloc B8.out.size (.cells (PI [ah, by_, ab, 65536, 65537, -1]).toArray 3))
          obtain ⟨wp, hwp⟩ : ∃ W, wr.alloc (.cells #[.int .i64 ah, .int .i64 by_, .int .i64 ab, .int .i64 65536, .int .i64 65537, .int .i64 (-1)] 3) = W := ⟨_, rfl⟩
          have e3 : wr.alloc (.cells (PI [ah, by_, ab, 65536, 65537, -1]).toArray 3) = wp := hwp
          rw [e3] at HP B9
          rw [hwp]
          obtain ⟨gP, hgP⟩ : ∃ g, wr.heap.size = g := ⟨_, rfl⟩
          rw [hgP] at HP ⊢
          obtain ⟨PL, hPL⟩ : ∃ l, l = [ah, by_, ab, 65536, 65537, -1] := ⟨_, rfl⟩
          rw [← hPL] at HP HPB
          have HLN := Lib.hid (show PL.length = 6 by rw [hPL]; rfl)
          clear hwp e3 hgP hPL B8
          go_wp2_with fail
          go_loopw [25] (fun s wr => ∃ i : Nat, i ≤ 7 ∧ s = .int .i64 ((i : Nat) : Int) ∧ Below wp.heap.size wp wr) (fun s _ => 7 - (intOf s).toNat)
          case atStart => exact ⟨0, Nat.zero_le _, rfl, Below.refl _ _⟩
          case round =>
            obtain ⟨i, hi, rfl, hbel⟩ := hrel
            have BR := Lib.hid hbel
            clear hbel
            rcases Nat.lt_or_ge i 7 with hlt | hge
            · have hiI : (i : Int) < 7 := by omega
              have HI := Lib.hid (show i + 1 ≤ 7 ∧ i < 7 by omega)
              clear hlt hi
              go_wp2_with fail
              go_loopw [26] (fun s wr => ∃ k : Nat, k ≤ 6 ∧ s = .int .i64 ((k : Nat) : Int) ∧ Below wp.heap.size wp wr) (fun s _ => 6 - (intOf s).toNat)
              case atStart => exact ⟨0, Nat.zero_le _, rfl, BR.out⟩
              case round =>
                clear BR
                obtain ⟨k, hk6, rfl, hbel⟩ := hrel
                have BR := Lib.hid hbel
                clear hbel
                rcases Nat.lt_or_ge k 6 with hlt | hge
                · have hkI : (k : Int) < 6 := by omega
                  obtain ⟨A1, n1, k1, A2, n2, k2, r, hr, d1, d2, hkr⟩ := HCS.out i HI.out.2
                  obtain ⟨a, ha⟩ : ∃ a, PL[k]? = some a := ⟨PL[k]'(by rw [HLN.out]; omega), List.getElem?_eq_getElem _⟩
                  have hab := HPB.out a (List.mem_of_getElem? ha)
                  have hca : wp.cell? ⟨gP, k, none⟩ = some (.int .i64 a) := by rw [Blk.cell HP.out]; unfold PI; rw [List.getElem?_map, ha]; rfl
                  have HSW := Lib.hid (fun W (h : Below wp.heap.size wp W) => show (W.cell? ⟨g, o + i * 2, none⟩ = some (.slice A1 n1 k1) ∧ W.cell? ⟨g, o + i * 2 + 1, none⟩ = some (.slice A2 n2 k2)) ∧ W.cell? ⟨gP, k, none⟩ = some (.int .i64 a) from
                    ⟨⟨((B9.out.trans (h.mono B9.out.size)).cell (p := ⟨g, o + i * 2, none⟩) HG.out.2).trans d1, ((B9.out.trans (h.mono B9.out.size)).cell (p := ⟨g, o + i * 2 + 1, none⟩) HG.out.2).trans d2⟩, (h.cell (p := ⟨gP, k, none⟩) HP.out.lt).trans hca⟩)
                  have HKW := Lib.hid (fun W (h : Below wp.heap.size wp W) => (hkr.below B9.out).below h)
                  obtain ⟨R, E, hRE⟩ : ∃ r' e, powR r a = (r', e) := ⟨_, _, rfl⟩
                  have HGD := Lib.hid (show Gd5 (R, E) by rw [← hRE]; exact gd_pow r a)
                  have HO := Lib.hid (fun W (h : Below wp.heap.size wp W) => show Calls Try.prog 18 #[.agg #[.slice A1 n1 k1, .slice A2 n2 k2], .int .i64 a] W (fun e w' => ∃ v, e = .returned (.tuple #[v, .int .i64 ((E : Nat) : Int)]) ∧ Rv w' v R ∧ Below W.heap.size W w') by have h := power_any (HKW.out W h) a hab; rw [hRE] at h; exact h)
                  have HQ := Lib.hid (fun W (h : Below wp.heap.size wp W) => show Calls Try.prog 19 #[.agg #[.slice A1 n1 k1, .slice A2 n2 k2], .int .i64 a] W (fun e w' => ∃ v, e = .returned (.tuple #[v, .int .i64 ((E : Nat) : Int)]) ∧ Rv w' v R ∧ Below W.heap.size W w') by have h := rpower_any (HKW.out W h) a hab; rw [hRE] at h; exact h)
                  have HK := Lib.hid (show k + 1 ≤ 6 by omega)
                  clear hr d1 d2 hkr ha hab hca HKW hRE hlt hk6
                  go_upto_region 22 with (fail)
                  go_cut [27, 28] from 121 to 153 (fun s27 s28 wx => ∃ gn C1 m3 j3 C2 m4 j4, s27 = .pointer (some ⟨gn, 0, none⟩) ∧ s28 = .int .i64 ((E : Nat) : Int) ∧ Hid (Bx wx gn C1 m3 j3 C2 m4 j4 R ∧ Below wp.heap.size wp wx))
                  case first =>
                    refine wp_region_held (S := fun W => (W.cell? ⟨g, o + i * 2, none⟩ = some (.slice A1 n1 k1) ∧ W.cell? ⟨g, o + i * 2 + 1, none⟩ = some (.slice A2 n2 k2)) ∧ W.cell? ⟨gP, k, none⟩ = some (.int .i64 a)) (by kernel_rfl) ?_
                    change wpAnyH _ _ _ _ _ _ _ _ (World.drew wr)
                    have k0 : Hid (Below wp.heap.size wp (World.drew wr)) := Lib.hid (below_drewN BR.out 1)
                    have hs0 := HSW.out _ k0.out
                    generalize World.drew wr = Wd at hs0 k0 ⊢
                    refine wpAnyH_take (i := 0) (oi := { dst := some 122, op := Op.move (Operand.tmp 15), type := 23, pos := "law.go:126", after := #[], guard := none }) (v := .slice (some ⟨g, o, none⟩) 7 c) rfl (by kernel_rfl) (by kernel_rfl) (by kernel_rfl) (fun _ _ _ h => h) (Or.inl ⟨by rfl, fun W hW => ?y1⟩) hs0 ?_
                    case y1 => go_simp
                    try dsimp only [Act.put]
                    try simp only [List.setIfInBounds_toArray, List.set_cons_zero, List.set_cons_succ]
                    refine wpAnyH_take (i := 1) (oi := { dst := some 123, op := Op.move (Operand.tmp 25), type := 3, pos := "law.go:126", after := #[], guard := none }) (v := .int .i64 ((i : Nat) : Int)) rfl (by kernel_rfl) (by kernel_rfl) (by kernel_rfl) (fun _ _ _ h => h) (Or.inl ⟨by rfl, fun W hW => ?y2⟩) hs0 ?_
                    case y2 => go_simp
                    try dsimp only [Act.put]
                    try simp only [List.setIfInBounds_toArray, List.set_cons_zero, List.set_cons_succ]
                    refine wpAnyH_take (i := 2) (oi := { dst := some 124, op := Op.indexAddr 23 (Operand.tmp 122) (Operand.tmp 123), type := 0, pos := "law.go:126", after := #[{ on := 0, ground := Ground.data }, { on := 1, ground := Ground.data }], guard := none }) (v := .pointer (some ⟨g, o + i * 2, none⟩)) rfl (by kernel_rfl) (by kernel_rfl) (by kernel_rfl) (fun _ _ _ h => h) (Or.inl ⟨by rfl, fun W hW => ?y3⟩) hs0 ?_
                    case y3 => go_simp
                    try dsimp only [Act.put]
                    try simp only [List.setIfInBounds_toArray, List.set_cons_zero, List.set_cons_succ]
                    refine wpAnyH_take (i := 3) (oi := { dst := some 125, op := Op.load 28 (Operand.tmp 124), type := 28, pos := "law.go:126", after := #[{ on := 2, ground := Ground.data }], guard := none }) (v := .agg #[.slice A1 n1 k1, .slice A2 n2 k2]) rfl (by kernel_rfl) (by kernel_rfl) (by kernel_rfl) (fun _ _ _ h => h) (Or.inl ⟨by rfl, fun W hW => by have hc1 := hW.1.1; have hc2 := hW.1.2; go_simp⟩) hs0 ?_
                    try dsimp only [Act.put]
                    try simp only [List.setIfInBounds_toArray, List.set_cons_zero, List.set_cons_succ]
                    refine wpAnyH_take (i := 4) (oi := { dst := some 126, op := Op.move (Operand.tmp 24), type := 37, pos := "law.go:126", after := #[], guard := none }) (v := .slice (some ⟨gP, 0, none⟩) 6 6) rfl (by kernel_rfl) (by kernel_rfl) (by kernel_rfl) (fun _ _ _ h => h) (Or.inl ⟨by rfl, fun W hW => ?y5⟩) hs0 ?_
                    case y5 => go_simp
                    try dsimp only [Act.put]
                    try simp only [List.setIfInBounds_toArray, List.set_cons_zero, List.set_cons_succ]
                    refine wpAnyH_take (i := 5) (oi := { dst := some 127, op := Op.move (Operand.tmp 26), type := 3, pos := "law.go:126", after := #[], guard := none }) (v := .int .i64 ((k : Nat) : Int)) rfl (by kernel_rfl) (by kernel_rfl) (by kernel_rfl) (fun _ _ _ h => h) (Or.inl ⟨by rfl, fun W hW => ?y6⟩) hs0 ?_
                    case y6 => go_simp
                    try dsimp only [Act.put]
                    try simp only [List.setIfInBounds_toArray, List.set_cons_zero, List.set_cons_succ]
                    refine wpAnyH_take (i := 6) (oi := { dst := some 128, op := Op.indexAddr 37 (Operand.tmp 126) (Operand.tmp 127), type := 0, pos := "law.go:126", after := #[{ on := 4, ground := Ground.data }, { on := 5, ground := Ground.data }], guard := none }) (v := .pointer (some ⟨gP, k, none⟩)) rfl (by kernel_rfl) (by kernel_rfl) (by kernel_rfl) (fun _ _ _ h => h) (Or.inl ⟨by rfl, fun W hW => ?y7⟩) hs0 ?_
                    case y7 => go_simp
                    try dsimp only [Act.put]
                    try simp only [List.setIfInBounds_toArray, List.set_cons_zero, List.set_cons_succ]
                    refine wpAnyH_take (i := 7) (oi := { dst := some 129, op := Op.load 3 (Operand.tmp 128), type := 3, pos := "law.go:126", after := #[{ on := 6, ground := Ground.data }], guard := none }) (v := .int .i64 a) rfl (by kernel_rfl) (by kernel_rfl) (by kernel_rfl) (fun _ _ _ h => h) (Or.inl ⟨by rfl, fun W hW => by have hcl := hW.2; go_simp⟩) hs0 ?_
                    try dsimp only [Act.put]
                    try simp only [List.setIfInBounds_toArray, List.set_cons_zero, List.set_cons_succ]
                    refine wpAnyH_ready (rs := [8, 12]) (by kernel_rfl) (by simp) ?_
                    refine AllReadyH.cons (o := { dst := some 130, op := Op.call { callee := Callee.value (Operand.func 18), args := #[Operand.tmp 125, Operand.tmp 129], argTypes := #[28, 3] }, type := 32, pos := "law.go:126", after := #[{ on := 3, ground := Ground.data }, { on := 7, ground := Ground.data }], guard := none }) rfl (fun K hK => ?_) (AllReadyH.cons (o := { dst := some 27, op := Op.alloc 28, type := 0, pos := "law.go:126", after := #[], guard := none }) rfl (fun K hK => ?_) AllReadyH.nil)
                    · rw [if_pos (by rfl)]
                      go_simp
                      refine (HO.out _ k0.out).mono ?_
                      rintro e w9 ⟨v, rfl, hrv, hb⟩
                      obtain ⟨u1, u2, rfl, hk⟩ := gd_rk (X := (R, E)) hrv HGD.out
                      have k17 := Lib.hid (below_step k0.out hb)
                      have hs18 := HSW.out _ k17.out
                      obtain ⟨C10, m11, j12, e1⟩ := sl_form hk.s1
                      obtain ⟨D13, p14, q15, e2⟩ := sl_form hk.s2
                      subst e1 e2
                      have KR16 := Lib.hid hk
                      clear hk hb hrv
                      go_wp2_with fail
                      refine hK.out _ _ hs18 (fun _ => ?_)
                      clear hK K
                      try dsimp only [Act.put]
                      try simp only [List.setIfInBounds_toArray, List.set_cons_zero, List.set_cons_succ]
                      refine wpAnyH_take (i := 9) (oi := { dst := some 121, op := Op.move (Operand.tmp 130), type := 32, pos := "law.go:126", after := #[{ on := 8, ground := Ground.data }], guard := none }) (v := .tuple #[.agg #[.slice C10 m11 j12, .slice D13 p14 q15], .int .i64 ((E : Nat) : Int)]) rfl (by kernel_rfl) (by kernel_rfl) (by kernel_rfl) (fun _ _ _ h => h) (Or.inl ⟨by rfl, fun W hW => ?y19⟩) hs18 ?_
                      case y19 => go_simp
                      try dsimp only [Act.put]
                      try simp only [List.setIfInBounds_toArray, List.set_cons_zero, List.set_cons_succ]
                      refine wpAnyH_take (i := 10) (oi := { dst := some 131, op := Op.extract (Operand.tmp 121) 0, type := 28, pos := "law.go:126", after := #[{ on := 9, ground := Ground.data }], guard := none }) (v := .agg #[.slice C10 m11 j12, .slice D13 p14 q15]) rfl (by kernel_rfl) (by kernel_rfl) (by kernel_rfl) (fun _ _ _ h => h) (Or.inl ⟨by rfl, fun W hW => ?y20⟩) hs18 ?_
                      case y20 => go_simp
                      try dsimp only [Act.put]
                      try simp only [List.setIfInBounds_toArray, List.set_cons_zero, List.set_cons_succ]
                      refine wpAnyH_take (i := 11) (oi := { dst := some 132, op := Op.extract (Operand.tmp 121) 1, type := 25, pos := "law.go:126", after := #[{ on := 9, ground := Ground.data }, { on := 13, ground := Ground.gcOnly Departure.lateStores }], guard := none }) (v := .int .i64 ((E : Nat) : Int)) rfl (by kernel_rfl) (by kernel_rfl) (by kernel_rfl) (fun _ _ _ h => h) (Or.inl ⟨by rfl, fun W hW => ?y21⟩) hs18 ?_
                      case y21 => go_simp
                      try dsimp only [Act.put]
                      try simp only [List.setIfInBounds_toArray, List.set_cons_zero, List.set_cons_succ]
                      refine wpAnyH_ready (rs := [12]) (by kernel_rfl) (by simp) ?_
                      refine AllReadyH.cons (o := { dst := some 27, op := Op.alloc 28, type := 0, pos := "law.go:126", after := #[], guard := none }) rfl (fun K hK => ?_) AllReadyH.nil
                      rw [if_pos (by rfl)]
                      go_simp
                      have hbt := bel0 w9
                      have k25 := Lib.hid (below_step k17.out hbt)
                      have hs26 := HSW.out _ k25.out
                      have KR27 := Lib.hid (KR16.out.below hbt)
                      have N23 := Lib.hid (Bx.new (rk_none w9))
                      have LB28 := Lib.hid (show wp.heap.size ≤ w9.heap.size from k17.out.size)
                      clear hbt
                      obtain ⟨u22, hW⟩ : ∃ W', w9.alloc (.cells #[.slice none 0 0, .slice none 0 0] 28) = W' := ⟨_, rfl⟩
                      rw [hW] at k25 hs26 N23 KR27 ⊢
                      clear hW
                      obtain ⟨gn24, hg⟩ : ∃ g, w9.heap.size = g := ⟨_, rfl⟩
                      rw [hg] at N23 LB28 ⊢
                      clear hg
                      refine hK.out _ _ hs26 (fun _ => ?_)
                      clear hK K
                      try dsimp only [Act.put]
                      try simp only [List.setIfInBounds_toArray, List.set_cons_zero, List.set_cons_succ]
                      refine wpAnyH_ready (rs := [13]) (by kernel_rfl) (by simp) ?_
                      refine AllReadyH.cons (o := { dst := none, op := Op.store 28 (Operand.tmp 27) (Operand.tmp 131), type := 0, pos := "law.go:126", after := #[{ on := 12, ground := Ground.data }, { on := 10, ground := Ground.data }, { on := 8, ground := Ground.chain }, { on := 0, ground := Ground.phase }, { on := 1, ground := Ground.phase }, { on := 2, ground := Ground.phase }, { on := 3, ground := Ground.phase }, { on := 4, ground := Ground.phase }, { on := 5, ground := Ground.phase }, { on := 6, ground := Ground.phase }, { on := 7, ground := Ground.phase }, { on := 8, ground := Ground.phase }, { on := 9, ground := Ground.phase }, { on := 10, ground := Ground.phase }, { on := 11, ground := Ground.textOnly Departure.lateStores }, { on := 12, ground := Ground.phase }], guard := none }) rfl (fun K hK => ?_) AllReadyH.nil
                      rw [if_pos (by rfl)]
                      obtain ⟨hc1, hc2, hf1, hf2⟩ := blk_cells2 N23.out.b
                      go_simp
                      refine hK.out _ _ (HSW.out _ (below_put0 k25.out LB28.out (.slice C10 m11 j12) (.slice D13 p14 q15))) (fun _ => ?_)
                      clear hK K
                      try dsimp only [Act.put]
                      try simp only [List.setIfInBounds_toArray, List.set_cons_zero, List.set_cons_succ]
                      refine wpAnyH_take (i := 14) (oi := { dst := some 28, op := Op.assign (Operand.tmp 132), type := 25, pos := "law.go:126", after := #[{ on := 11, ground := Ground.data }, { on := 13, ground := Ground.chain }, { on := 0, ground := Ground.phase }, { on := 1, ground := Ground.phase }, { on := 2, ground := Ground.phase }, { on := 3, ground := Ground.phase }, { on := 4, ground := Ground.phase }, { on := 5, ground := Ground.phase }, { on := 6, ground := Ground.phase }, { on := 7, ground := Ground.phase }, { on := 8, ground := Ground.phase }, { on := 9, ground := Ground.phase }, { on := 10, ground := Ground.phase }, { on := 11, ground := Ground.phase }, { on := 12, ground := Ground.phase }, { on := 13, ground := Ground.phase }], guard := none }) (v := .int .i64 ((E : Nat) : Int)) rfl (by kernel_rfl) (by kernel_rfl) (by kernel_rfl) (fun _ _ _ h => h) (Or.inl ⟨by rfl, fun W hW => ?y29⟩) (HSW.out _ (below_put0 k25.out LB28.out (.slice C10 m11 j12) (.slice D13 p14 q15))) ?_
                      case y29 => go_simp
                      try dsimp only [Act.put]
                      try simp only [List.setIfInBounds_toArray, List.set_cons_zero, List.set_cons_succ]
                      refine wpAnyH_done (by kernel_rfl) ?_ _
                      try dsimp only [Act.put]
                      try simp only [List.setIfInBounds_toArray, List.set_cons_zero, List.set_cons_succ]
                      go_wp2_with fail
                      go_meet
                      exact ⟨gn24, C10, m11, j12, D13, p14, q15, rfl, rfl, Lib.hid ⟨N23.out.put KR27.out, (below_put0 k25.out LB28.out (.slice C10 m11 j12) (.slice D13 p14 q15))⟩⟩
                    · rw [if_pos (by rfl)]
                      go_simp
                      have hbt := bel0 Wd
                      have k33 := Lib.hid (below_step k0.out hbt)
                      have hs34 := HSW.out _ k33.out
                      have N31 := Lib.hid (Bx.new (rk_none Wd))
                      have LB35 := Lib.hid (show wp.heap.size ≤ Wd.heap.size from k0.out.size)
                      clear hbt
                      obtain ⟨u30, hW⟩ : ∃ W', Wd.alloc (.cells #[.slice none 0 0, .slice none 0 0] 28) = W' := ⟨_, rfl⟩
                      rw [hW] at k33 hs34 N31 ⊢
                      clear hW
                      obtain ⟨gn32, hg⟩ : ∃ g, Wd.heap.size = g := ⟨_, rfl⟩
                      rw [hg] at N31 LB35 ⊢
                      clear hg
                      refine hK.out _ _ hs34 (fun _ => ?_)
                      clear hK K
                      try dsimp only [Act.put]
                      try simp only [List.setIfInBounds_toArray, List.set_cons_zero, List.set_cons_succ]
                      refine wpAnyH_ready (rs := [8]) (by kernel_rfl) (by simp) ?_
                      refine AllReadyH.cons (o := { dst := some 130, op := Op.call { callee := Callee.value (Operand.func 18), args := #[Operand.tmp 125, Operand.tmp 129], argTypes := #[28, 3] }, type := 32, pos := "law.go:126", after := #[{ on := 3, ground := Ground.data }, { on := 7, ground := Ground.data }], guard := none }) rfl (fun K hK => ?_) AllReadyH.nil
                      rw [if_pos (by rfl)]
                      go_simp
                      refine (HO.out _ k33.out).mono ?_
                      rintro e w36 ⟨v, rfl, hrv, hb⟩
                      obtain ⟨u1, u2, rfl, hk⟩ := gd_rk (X := (R, E)) hrv HGD.out
                      have k44 := Lib.hid (below_step k33.out hb)
                      have hs45 := HSW.out _ k44.out
                      have N46 := Lib.hid (N31.out.below hb)
                      obtain ⟨C37, m38, j39, e1⟩ := sl_form hk.s1
                      obtain ⟨D40, p41, q42, e2⟩ := sl_form hk.s2
                      subst e1 e2
                      have KR43 := Lib.hid hk
                      clear hk hb hrv
                      go_wp2_with fail
                      refine hK.out _ _ hs45 (fun _ => ?_)
                      clear hK K
                      try dsimp only [Act.put]
                      try simp only [List.setIfInBounds_toArray, List.set_cons_zero, List.set_cons_succ]
                      refine wpAnyH_take (i := 9) (oi := { dst := some 121, op := Op.move (Operand.tmp 130), type := 32, pos := "law.go:126", after := #[{ on := 8, ground := Ground.data }], guard := none }) (v := .tuple #[.agg #[.slice C37 m38 j39, .slice D40 p41 q42], .int .i64 ((E : Nat) : Int)]) rfl (by kernel_rfl) (by kernel_rfl) (by kernel_rfl) (fun _ _ _ h => h) (Or.inl ⟨by rfl, fun W hW => ?y47⟩) hs45 ?_
                      case y47 => go_simp
                      try dsimp only [Act.put]
                      try simp only [List.setIfInBounds_toArray, List.set_cons_zero, List.set_cons_succ]
                      refine wpAnyH_take (i := 10) (oi := { dst := some 131, op := Op.extract (Operand.tmp 121) 0, type := 28, pos := "law.go:126", after := #[{ on := 9, ground := Ground.data }], guard := none }) (v := .agg #[.slice C37 m38 j39, .slice D40 p41 q42]) rfl (by kernel_rfl) (by kernel_rfl) (by kernel_rfl) (fun _ _ _ h => h) (Or.inl ⟨by rfl, fun W hW => ?y48⟩) hs45 ?_
                      case y48 => go_simp
                      try dsimp only [Act.put]
                      try simp only [List.setIfInBounds_toArray, List.set_cons_zero, List.set_cons_succ]
                      refine wpAnyH_take (i := 11) (oi := { dst := some 132, op := Op.extract (Operand.tmp 121) 1, type := 25, pos := "law.go:126", after := #[{ on := 9, ground := Ground.data }, { on := 13, ground := Ground.gcOnly Departure.lateStores }], guard := none }) (v := .int .i64 ((E : Nat) : Int)) rfl (by kernel_rfl) (by kernel_rfl) (by kernel_rfl) (fun _ _ _ h => h) (Or.inl ⟨by rfl, fun W hW => ?y49⟩) hs45 ?_
                      case y49 => go_simp
                      try dsimp only [Act.put]
                      try simp only [List.setIfInBounds_toArray, List.set_cons_zero, List.set_cons_succ]
                      refine wpAnyH_ready (rs := [13]) (by kernel_rfl) (by simp) ?_
                      refine AllReadyH.cons (o := { dst := none, op := Op.store 28 (Operand.tmp 27) (Operand.tmp 131), type := 0, pos := "law.go:126", after := #[{ on := 12, ground := Ground.data }, { on := 10, ground := Ground.data }, { on := 8, ground := Ground.chain }, { on := 0, ground := Ground.phase }, { on := 1, ground := Ground.phase }, { on := 2, ground := Ground.phase }, { on := 3, ground := Ground.phase }, { on := 4, ground := Ground.phase }, { on := 5, ground := Ground.phase }, { on := 6, ground := Ground.phase }, { on := 7, ground := Ground.phase }, { on := 8, ground := Ground.phase }, { on := 9, ground := Ground.phase }, { on := 10, ground := Ground.phase }, { on := 11, ground := Ground.textOnly Departure.lateStores }, { on := 12, ground := Ground.phase }], guard := none }) rfl (fun K hK => ?_) AllReadyH.nil
                      rw [if_pos (by rfl)]
                      obtain ⟨hc1, hc2, hf1, hf2⟩ := blk_cells2 N46.out.b
                      go_simp
                      refine hK.out _ _ (HSW.out _ (below_put0 k44.out LB35.out (.slice C37 m38 j39) (.slice D40 p41 q42))) (fun _ => ?_)
                      clear hK K
                      try dsimp only [Act.put]
                      try simp only [List.setIfInBounds_toArray, List.set_cons_zero, List.set_cons_succ]
                      refine wpAnyH_take (i := 14) (oi := { dst := some 28, op := Op.assign (Operand.tmp 132), type := 25, pos := "law.go:126", after := #[{ on := 11, ground := Ground.data }, { on := 13, ground := Ground.chain }, { on := 0, ground := Ground.phase }, { on := 1, ground := Ground.phase }, { on := 2, ground := Ground.phase }, { on := 3, ground := Ground.phase }, { on := 4, ground := Ground.phase }, { on := 5, ground := Ground.phase }, { on := 6, ground := Ground.phase }, { on := 7, ground := Ground.phase }, { on := 8, ground := Ground.phase }, { on := 9, ground := Ground.phase }, { on := 10, ground := Ground.phase }, { on := 11, ground := Ground.phase }, { on := 12, ground := Ground.phase }, { on := 13, ground := Ground.phase }], guard := none }) (v := .int .i64 ((E : Nat) : Int)) rfl (by kernel_rfl) (by kernel_rfl) (by kernel_rfl) (fun _ _ _ h => h) (Or.inl ⟨by rfl, fun W hW => ?y50⟩) (HSW.out _ (below_put0 k44.out LB35.out (.slice C37 m38 j39) (.slice D40 p41 q42))) ?_
                      case y50 => go_simp
                      try dsimp only [Act.put]
                      try simp only [List.setIfInBounds_toArray, List.set_cons_zero, List.set_cons_succ]
                      refine wpAnyH_done (by kernel_rfl) ?_ _
                      try dsimp only [Act.put]
                      try simp only [List.setIfInBounds_toArray, List.set_cons_zero, List.set_cons_succ]
                      go_wp2_with fail
                      go_meet
                      exact ⟨gn32, C37, m38, j39, D40, p41, q42, rfl, rfl, Lib.hid ⟨N46.out.put KR43.out, (below_put0 k44.out LB35.out (.slice C37 m38 j39) (.slice D40 p41 q42))⟩⟩
                  case rest =>
                    obtain ⟨ga, C1, m1, j1, C2, m2, j2, rfl, rfl, hall⟩ := hcut
                    clear BR HO
                    have VA := Lib.hid hall.out.1; have B3 := Lib.hid hall.out.2
                    clear hall
                    go_upto_region 23 with (fail)
                    go_cut [29, 30] from 121 to 153 (fun s29 s30 wx => ∃ gn D1 m3 j3 D2 m4 j4, s29 = .pointer (some ⟨gn, 0, none⟩) ∧ s30 = .int .i64 ((E : Nat) : Int) ∧ Hid (Bx wx gn D1 m3 j3 D2 m4 j4 R ∧ Bx wx ga C1 m1 j1 C2 m2 j2 R ∧ Below wp.heap.size wp wx))
                    case first =>
                      refine wp_region_held (S := fun W => (W.cell? ⟨g, o + i * 2, none⟩ = some (.slice A1 n1 k1) ∧ W.cell? ⟨g, o + i * 2 + 1, none⟩ = some (.slice A2 n2 k2)) ∧ W.cell? ⟨gP, k, none⟩ = some (.int .i64 a)) (by kernel_rfl) ?_
                      change wpAnyH _ _ _ _ _ _ _ _ (World.drew wc)
                      have k0 : Hid (Below wp.heap.size wp (World.drew wc)) := Lib.hid (below_drewN B3.out 1)
                      have hs0 := HSW.out _ k0.out
                      have ZVA := Lib.hid (show Bx (World.drew wc) ga C1 m1 j1 C2 m2 j2 R from VA.out.below (below_drewN (Below.refl wc.heap.size wc) 1))
                      generalize World.drew wc = Wd at hs0 k0 ZVA ⊢
                      refine wpAnyH_take (i := 0) (oi := { dst := some 134, op := Op.move (Operand.tmp 15), type := 23, pos := "law.go:127", after := #[], guard := none }) (v := .slice (some ⟨g, o, none⟩) 7 c) rfl (by kernel_rfl) (by kernel_rfl) (by kernel_rfl) (fun _ _ _ h => h) (Or.inl ⟨by rfl, fun W hW => ?y1⟩) hs0 ?_
                      case y1 => go_simp
                      try dsimp only [Act.put]
                      try simp only [List.setIfInBounds_toArray, List.set_cons_zero, List.set_cons_succ]
                      refine wpAnyH_take (i := 1) (oi := { dst := some 135, op := Op.move (Operand.tmp 25), type := 3, pos := "law.go:127", after := #[], guard := none }) (v := .int .i64 ((i : Nat) : Int)) rfl (by kernel_rfl) (by kernel_rfl) (by kernel_rfl) (fun _ _ _ h => h) (Or.inl ⟨by rfl, fun W hW => ?y2⟩) hs0 ?_
                      case y2 => go_simp
                      try dsimp only [Act.put]
                      try simp only [List.setIfInBounds_toArray, List.set_cons_zero, List.set_cons_succ]
                      refine wpAnyH_take (i := 2) (oi := { dst := some 136, op := Op.indexAddr 23 (Operand.tmp 134) (Operand.tmp 135), type := 0, pos := "law.go:127", after := #[{ on := 0, ground := Ground.data }, { on := 1, ground := Ground.data }], guard := none }) (v := .pointer (some ⟨g, o + i * 2, none⟩)) rfl (by kernel_rfl) (by kernel_rfl) (by kernel_rfl) (fun _ _ _ h => h) (Or.inl ⟨by rfl, fun W hW => ?y3⟩) hs0 ?_
                      case y3 => go_simp
                      try dsimp only [Act.put]
                      try simp only [List.setIfInBounds_toArray, List.set_cons_zero, List.set_cons_succ]
                      refine wpAnyH_take (i := 3) (oi := { dst := some 137, op := Op.load 28 (Operand.tmp 136), type := 28, pos := "law.go:127", after := #[{ on := 2, ground := Ground.data }], guard := none }) (v := .agg #[.slice A1 n1 k1, .slice A2 n2 k2]) rfl (by kernel_rfl) (by kernel_rfl) (by kernel_rfl) (fun _ _ _ h => h) (Or.inl ⟨by rfl, fun W hW => by have hc1 := hW.1.1; have hc2 := hW.1.2; go_simp⟩) hs0 ?_
                      try dsimp only [Act.put]
                      try simp only [List.setIfInBounds_toArray, List.set_cons_zero, List.set_cons_succ]
                      refine wpAnyH_take (i := 4) (oi := { dst := some 138, op := Op.move (Operand.tmp 24), type := 37, pos := "law.go:127", after := #[], guard := none }) (v := .slice (some ⟨gP, 0, none⟩) 6 6) rfl (by kernel_rfl) (by kernel_rfl) (by kernel_rfl) (fun _ _ _ h => h) (Or.inl ⟨by rfl, fun W hW => ?y5⟩) hs0 ?_
                      case y5 => go_simp
                      try dsimp only [Act.put]
                      try simp only [List.setIfInBounds_toArray, List.set_cons_zero, List.set_cons_succ]
                      refine wpAnyH_take (i := 5) (oi := { dst := some 139, op := Op.move (Operand.tmp 26), type := 3, pos := "law.go:127", after := #[], guard := none }) (v := .int .i64 ((k : Nat) : Int)) rfl (by kernel_rfl) (by kernel_rfl) (by kernel_rfl) (fun _ _ _ h => h) (Or.inl ⟨by rfl, fun W hW => ?y6⟩) hs0 ?_
                      case y6 => go_simp
                      try dsimp only [Act.put]
                      try simp only [List.setIfInBounds_toArray, List.set_cons_zero, List.set_cons_succ]
                      refine wpAnyH_take (i := 6) (oi := { dst := some 140, op := Op.indexAddr 37 (Operand.tmp 138) (Operand.tmp 139), type := 0, pos := "law.go:127", after := #[{ on := 4, ground := Ground.data }, { on := 5, ground := Ground.data }], guard := none }) (v := .pointer (some ⟨gP, k, none⟩)) rfl (by kernel_rfl) (by kernel_rfl) (by kernel_rfl) (fun _ _ _ h => h) (Or.inl ⟨by rfl, fun W hW => ?y7⟩) hs0 ?_
                      case y7 => go_simp
                      try dsimp only [Act.put]
                      try simp only [List.setIfInBounds_toArray, List.set_cons_zero, List.set_cons_succ]
                      refine wpAnyH_take (i := 7) (oi := { dst := some 141, op := Op.load 3 (Operand.tmp 140), type := 3, pos := "law.go:127", after := #[{ on := 6, ground := Ground.data }], guard := none }) (v := .int .i64 a) rfl (by kernel_rfl) (by kernel_rfl) (by kernel_rfl) (fun _ _ _ h => h) (Or.inl ⟨by rfl, fun W hW => by have hcl := hW.2; go_simp⟩) hs0 ?_
                      try dsimp only [Act.put]
                      try simp only [List.setIfInBounds_toArray, List.set_cons_zero, List.set_cons_succ]
                      refine wpAnyH_ready (rs := [8, 12]) (by kernel_rfl) (by simp) ?_
                      refine AllReadyH.cons (o := { dst := some 142, op := Op.call { callee := Callee.value (Operand.func 19), args := #[Operand.tmp 137, Operand.tmp 141], argTypes := #[28, 3] }, type := 32, pos := "law.go:127", after := #[{ on := 3, ground := Ground.data }, { on := 7, ground := Ground.data }], guard := none }) rfl (fun K hK => ?_) (AllReadyH.cons (o := { dst := some 29, op := Op.alloc 28, type := 0, pos := "law.go:127", after := #[], guard := none }) rfl (fun K hK => ?_) AllReadyH.nil)
                      · rw [if_pos (by rfl)]
                        go_simp
                        refine (HQ.out _ k0.out).mono ?_
                        rintro e w9 ⟨v, rfl, hrv, hb⟩
                        obtain ⟨u1, u2, rfl, hk⟩ := gd_rk (X := (R, E)) hrv HGD.out
                        have k17 := Lib.hid (below_step k0.out hb)
                        have hs18 := HSW.out _ k17.out
                        have VA19 := Lib.hid (ZVA.out.below hb)
                        obtain ⟨C10, m11, j12, e1⟩ := sl_form hk.s1
                        obtain ⟨D13, p14, q15, e2⟩ := sl_form hk.s2
                        subst e1 e2
                        have KR16 := Lib.hid hk
                        clear hk hb hrv
                        go_wp2_with fail
                        refine hK.out _ _ hs18 (fun _ => ?_)
                        clear hK K
                        try dsimp only [Act.put]
                        try simp only [List.setIfInBounds_toArray, List.set_cons_zero, List.set_cons_succ]
                        refine wpAnyH_take (i := 9) (oi := { dst := some 133, op := Op.move (Operand.tmp 142), type := 32, pos := "law.go:127", after := #[{ on := 8, ground := Ground.data }], guard := none }) (v := .tuple #[.agg #[.slice C10 m11 j12, .slice D13 p14 q15], .int .i64 ((E : Nat) : Int)]) rfl (by kernel_rfl) (by kernel_rfl) (by kernel_rfl) (fun _ _ _ h => h) (Or.inl ⟨by rfl, fun W hW => ?y20⟩) hs18 ?_
                        case y20 => go_simp
                        try dsimp only [Act.put]
                        try simp only [List.setIfInBounds_toArray, List.set_cons_zero, List.set_cons_succ]
                        refine wpAnyH_take (i := 10) (oi := { dst := some 143, op := Op.extract (Operand.tmp 133) 0, type := 28, pos := "law.go:127", after := #[{ on := 9, ground := Ground.data }], guard := none }) (v := .agg #[.slice C10 m11 j12, .slice D13 p14 q15]) rfl (by kernel_rfl) (by kernel_rfl) (by kernel_rfl) (fun _ _ _ h => h) (Or.inl ⟨by rfl, fun W hW => ?y21⟩) hs18 ?_
                        case y21 => go_simp
                        try dsimp only [Act.put]
                        try simp only [List.setIfInBounds_toArray, List.set_cons_zero, List.set_cons_succ]
                        refine wpAnyH_take (i := 11) (oi := { dst := some 144, op := Op.extract (Operand.tmp 133) 1, type := 25, pos := "law.go:127", after := #[{ on := 9, ground := Ground.data }, { on := 13, ground := Ground.gcOnly Departure.lateStores }], guard := none }) (v := .int .i64 ((E : Nat) : Int)) rfl (by kernel_rfl) (by kernel_rfl) (by kernel_rfl) (fun _ _ _ h => h) (Or.inl ⟨by rfl, fun W hW => ?y22⟩) hs18 ?_
                        case y22 => go_simp
                        try dsimp only [Act.put]
                        try simp only [List.setIfInBounds_toArray, List.set_cons_zero, List.set_cons_succ]
                        refine wpAnyH_ready (rs := [12]) (by kernel_rfl) (by simp) ?_
                        refine AllReadyH.cons (o := { dst := some 29, op := Op.alloc 28, type := 0, pos := "law.go:127", after := #[], guard := none }) rfl (fun K hK => ?_) AllReadyH.nil
                        rw [if_pos (by rfl)]
                        go_simp
                        have hbt := bel0 w9
                        have k26 := Lib.hid (below_step k17.out hbt)
                        have hs27 := HSW.out _ k26.out
                        have KR28 := Lib.hid (KR16.out.below hbt)
                        have VA29 := Lib.hid (VA19.out.below hbt)
                        have N24 := Lib.hid (Bx.new (rk_none w9))
                        have LX30 := Lib.hid (show ga < w9.heap.size from VA19.out.b.lt)
                        have LB31 := Lib.hid (show wp.heap.size ≤ w9.heap.size from k17.out.size)
                        clear hbt
                        obtain ⟨u23, hW⟩ : ∃ W', w9.alloc (.cells #[.slice none 0 0, .slice none 0 0] 28) = W' := ⟨_, rfl⟩
                        rw [hW] at k26 hs27 N24 KR28 VA29 ⊢
                        clear hW
                        obtain ⟨gn25, hg⟩ : ∃ g, w9.heap.size = g := ⟨_, rfl⟩
                        rw [hg] at N24 LX30 LB31 ⊢
                        clear hg
                        refine hK.out _ _ hs27 (fun _ => ?_)
                        clear hK K
                        try dsimp only [Act.put]
                        try simp only [List.setIfInBounds_toArray, List.set_cons_zero, List.set_cons_succ]
                        refine wpAnyH_ready (rs := [13]) (by kernel_rfl) (by simp) ?_
                        refine AllReadyH.cons (o := { dst := none, op := Op.store 28 (Operand.tmp 29) (Operand.tmp 143), type := 0, pos := "law.go:127", after := #[{ on := 12, ground := Ground.data }, { on := 10, ground := Ground.data }, { on := 8, ground := Ground.chain }, { on := 0, ground := Ground.phase }, { on := 1, ground := Ground.phase }, { on := 2, ground := Ground.phase }, { on := 3, ground := Ground.phase }, { on := 4, ground := Ground.phase }, { on := 5, ground := Ground.phase }, { on := 6, ground := Ground.phase }, { on := 7, ground := Ground.phase }, { on := 8, ground := Ground.phase }, { on := 9, ground := Ground.phase }, { on := 10, ground := Ground.phase }, { on := 11, ground := Ground.textOnly Departure.lateStores }, { on := 12, ground := Ground.phase }], guard := none }) rfl (fun K hK => ?_) AllReadyH.nil
                        rw [if_pos (by rfl)]
                        obtain ⟨hc1, hc2, hf1, hf2⟩ := blk_cells2 N24.out.b
                        go_simp
                        refine hK.out _ _ (HSW.out _ (below_put0 k26.out LB31.out (.slice C10 m11 j12) (.slice D13 p14 q15))) (fun _ => ?_)
                        clear hK K
                        try dsimp only [Act.put]
                        try simp only [List.setIfInBounds_toArray, List.set_cons_zero, List.set_cons_succ]
                        refine wpAnyH_take (i := 14) (oi := { dst := some 30, op := Op.assign (Operand.tmp 144), type := 25, pos := "law.go:127", after := #[{ on := 11, ground := Ground.data }, { on := 13, ground := Ground.chain }, { on := 0, ground := Ground.phase }, { on := 1, ground := Ground.phase }, { on := 2, ground := Ground.phase }, { on := 3, ground := Ground.phase }, { on := 4, ground := Ground.phase }, { on := 5, ground := Ground.phase }, { on := 6, ground := Ground.phase }, { on := 7, ground := Ground.phase }, { on := 8, ground := Ground.phase }, { on := 9, ground := Ground.phase }, { on := 10, ground := Ground.phase }, { on := 11, ground := Ground.phase }, { on := 12, ground := Ground.phase }, { on := 13, ground := Ground.phase }], guard := none }) (v := .int .i64 ((E : Nat) : Int)) rfl (by kernel_rfl) (by kernel_rfl) (by kernel_rfl) (fun _ _ _ h => h) (Or.inl ⟨by rfl, fun W hW => ?y32⟩) (HSW.out _ (below_put0 k26.out LB31.out (.slice C10 m11 j12) (.slice D13 p14 q15))) ?_
                        case y32 => go_simp
                        try dsimp only [Act.put]
                        try simp only [List.setIfInBounds_toArray, List.set_cons_zero, List.set_cons_succ]
                        refine wpAnyH_done (by kernel_rfl) ?_ _
                        try dsimp only [Act.put]
                        try simp only [List.setIfInBounds_toArray, List.set_cons_zero, List.set_cons_succ]
                        go_wp2_with fail
                        go_meet
                        exact ⟨gn25, C10, m11, j12, D13, p14, q15, rfl, rfl, Lib.hid ⟨N24.out.put KR28.out, VA29.out.far N24.out (by have := LX30.out; omega) C10 m11 j12 D13 p14 q15, (below_put0 k26.out LB31.out (.slice C10 m11 j12) (.slice D13 p14 q15))⟩⟩
                      · rw [if_pos (by rfl)]
                        go_simp
                        have hbt := bel0 Wd
                        have k36 := Lib.hid (below_step k0.out hbt)
                        have hs37 := HSW.out _ k36.out
                        have VA38 := Lib.hid (ZVA.out.below hbt)
                        have N34 := Lib.hid (Bx.new (rk_none Wd))
                        have LX39 := Lib.hid (show ga < Wd.heap.size from ZVA.out.b.lt)
                        have LB40 := Lib.hid (show wp.heap.size ≤ Wd.heap.size from k0.out.size)
                        clear hbt
                        obtain ⟨u33, hW⟩ : ∃ W', Wd.alloc (.cells #[.slice none 0 0, .slice none 0 0] 28) = W' := ⟨_, rfl⟩
                        rw [hW] at k36 hs37 N34 VA38 ⊢
                        clear hW
                        obtain ⟨gn35, hg⟩ : ∃ g, Wd.heap.size = g := ⟨_, rfl⟩
                        rw [hg] at N34 LX39 LB40 ⊢
                        clear hg
                        refine hK.out _ _ hs37 (fun _ => ?_)
                        clear hK K
                        try dsimp only [Act.put]
                        try simp only [List.setIfInBounds_toArray, List.set_cons_zero, List.set_cons_succ]
                        refine wpAnyH_ready (rs := [8]) (by kernel_rfl) (by simp) ?_
                        refine AllReadyH.cons (o := { dst := some 142, op := Op.call { callee := Callee.value (Operand.func 19), args := #[Operand.tmp 137, Operand.tmp 141], argTypes := #[28, 3] }, type := 32, pos := "law.go:127", after := #[{ on := 3, ground := Ground.data }, { on := 7, ground := Ground.data }], guard := none }) rfl (fun K hK => ?_) AllReadyH.nil
                        rw [if_pos (by rfl)]
                        go_simp
                        refine (HQ.out _ k36.out).mono ?_
                        rintro e w41 ⟨v, rfl, hrv, hb⟩
                        obtain ⟨u1, u2, rfl, hk⟩ := gd_rk (X := (R, E)) hrv HGD.out
                        have k49 := Lib.hid (below_step k36.out hb)
                        have hs50 := HSW.out _ k49.out
                        have N51 := Lib.hid (N34.out.below hb)
                        have VA52 := Lib.hid (VA38.out.below hb)
                        obtain ⟨C42, m43, j44, e1⟩ := sl_form hk.s1
                        obtain ⟨D45, p46, q47, e2⟩ := sl_form hk.s2
                        subst e1 e2
                        have KR48 := Lib.hid hk
                        clear hk hb hrv
                        go_wp2_with fail
                        refine hK.out _ _ hs50 (fun _ => ?_)
                        clear hK K
                        try dsimp only [Act.put]
                        try simp only [List.setIfInBounds_toArray, List.set_cons_zero, List.set_cons_succ]
                        refine wpAnyH_take (i := 9) (oi := { dst := some 133, op := Op.move (Operand.tmp 142), type := 32, pos := "law.go:127", after := #[{ on := 8, ground := Ground.data }], guard := none }) (v := .tuple #[.agg #[.slice C42 m43 j44, .slice D45 p46 q47], .int .i64 ((E : Nat) : Int)]) rfl (by kernel_rfl) (by kernel_rfl) (by kernel_rfl) (fun _ _ _ h => h) (Or.inl ⟨by rfl, fun W hW => ?y53⟩) hs50 ?_
                        case y53 => go_simp
                        try dsimp only [Act.put]
                        try simp only [List.setIfInBounds_toArray, List.set_cons_zero, List.set_cons_succ]
                        refine wpAnyH_take (i := 10) (oi := { dst := some 143, op := Op.extract (Operand.tmp 133) 0, type := 28, pos := "law.go:127", after := #[{ on := 9, ground := Ground.data }], guard := none }) (v := .agg #[.slice C42 m43 j44, .slice D45 p46 q47]) rfl (by kernel_rfl) (by kernel_rfl) (by kernel_rfl) (fun _ _ _ h => h) (Or.inl ⟨by rfl, fun W hW => ?y54⟩) hs50 ?_
                        case y54 => go_simp
                        try dsimp only [Act.put]
                        try simp only [List.setIfInBounds_toArray, List.set_cons_zero, List.set_cons_succ]
                        refine wpAnyH_take (i := 11) (oi := { dst := some 144, op := Op.extract (Operand.tmp 133) 1, type := 25, pos := "law.go:127", after := #[{ on := 9, ground := Ground.data }, { on := 13, ground := Ground.gcOnly Departure.lateStores }], guard := none }) (v := .int .i64 ((E : Nat) : Int)) rfl (by kernel_rfl) (by kernel_rfl) (by kernel_rfl) (fun _ _ _ h => h) (Or.inl ⟨by rfl, fun W hW => ?y55⟩) hs50 ?_
                        case y55 => go_simp
                        try dsimp only [Act.put]
                        try simp only [List.setIfInBounds_toArray, List.set_cons_zero, List.set_cons_succ]
                        refine wpAnyH_ready (rs := [13]) (by kernel_rfl) (by simp) ?_
                        refine AllReadyH.cons (o := { dst := none, op := Op.store 28 (Operand.tmp 29) (Operand.tmp 143), type := 0, pos := "law.go:127", after := #[{ on := 12, ground := Ground.data }, { on := 10, ground := Ground.data }, { on := 8, ground := Ground.chain }, { on := 0, ground := Ground.phase }, { on := 1, ground := Ground.phase }, { on := 2, ground := Ground.phase }, { on := 3, ground := Ground.phase }, { on := 4, ground := Ground.phase }, { on := 5, ground := Ground.phase }, { on := 6, ground := Ground.phase }, { on := 7, ground := Ground.phase }, { on := 8, ground := Ground.phase }, { on := 9, ground := Ground.phase }, { on := 10, ground := Ground.phase }, { on := 11, ground := Ground.textOnly Departure.lateStores }, { on := 12, ground := Ground.phase }], guard := none }) rfl (fun K hK => ?_) AllReadyH.nil
                        rw [if_pos (by rfl)]
                        obtain ⟨hc1, hc2, hf1, hf2⟩ := blk_cells2 N51.out.b
                        go_simp
                        refine hK.out _ _ (HSW.out _ (below_put0 k49.out LB40.out (.slice C42 m43 j44) (.slice D45 p46 q47))) (fun _ => ?_)
                        clear hK K
                        try dsimp only [Act.put]
                        try simp only [List.setIfInBounds_toArray, List.set_cons_zero, List.set_cons_succ]
                        refine wpAnyH_take (i := 14) (oi := { dst := some 30, op := Op.assign (Operand.tmp 144), type := 25, pos := "law.go:127", after := #[{ on := 11, ground := Ground.data }, { on := 13, ground := Ground.chain }, { on := 0, ground := Ground.phase }, { on := 1, ground := Ground.phase }, { on := 2, ground := Ground.phase }, { on := 3, ground := Ground.phase }, { on := 4, ground := Ground.phase }, { on := 5, ground := Ground.phase }, { on := 6, ground := Ground.phase }, { on := 7, ground := Ground.phase }, { on := 8, ground := Ground.phase }, { on := 9, ground := Ground.phase }, { on := 10, ground := Ground.phase }, { on := 11, ground := Ground.phase }, { on := 12, ground := Ground.phase }, { on := 13, ground := Ground.phase }], guard := none }) (v := .int .i64 ((E : Nat) : Int)) rfl (by kernel_rfl) (by kernel_rfl) (by kernel_rfl) (fun _ _ _ h => h) (Or.inl ⟨by rfl, fun W hW => ?y56⟩) (HSW.out _ (below_put0 k49.out LB40.out (.slice C42 m43 j44) (.slice D45 p46 q47))) ?_
                        case y56 => go_simp
                        try dsimp only [Act.put]
                        try simp only [List.setIfInBounds_toArray, List.set_cons_zero, List.set_cons_succ]
                        refine wpAnyH_done (by kernel_rfl) ?_ _
                        try dsimp only [Act.put]
                        try simp only [List.setIfInBounds_toArray, List.set_cons_zero, List.set_cons_succ]
                        go_wp2_with fail
                        go_meet
                        exact ⟨gn35, C42, m43, j44, D45, p46, q47, rfl, rfl, Lib.hid ⟨N51.out.put KR48.out, VA52.out.far N51.out (by have := LX39.out; omega) C42 m43 j44 D45 p46 q47, (below_put0 k49.out LB40.out (.slice C42 m43 j44) (.slice D45 p46 q47))⟩⟩
                    case rest =>
                      obtain ⟨gb, D1, m3, j3, D2, m4, j4, rfl, rfl, hall⟩ := hcut
                      clear B3 HQ VA HSW
                      have VB := Lib.hid hall.out.1; have VA := Lib.hid hall.out.2.1; have B3 := Lib.hid hall.out.2.2
                      clear hall
                      obtain ⟨hc1, hc2, hf1, hf2⟩ := blk_cells2 VA.out.b
                      obtain ⟨hc3, hc4, hf3, hf4⟩ := blk_cells2 VB.out.b
                      have hne : (((E : Nat) : Int) != ((E : Nat) : Int)) = false := by simp
                      have hsm := rsame_any VA.out.k VB.out.k
                      rw [decide_eq_true rfl] at hsm
                      have HS := Lib.hid hsm
                      clear hsm
                      go_wp2_with fail
                      refine HS.out.mono ?_
                      rintro e w9 ⟨rfl, hb⟩
                      have B5 := Lib.hid (below_step B3.out hb)
                      clear hb HS hc1 hc2 hf1 hf2 hc3 hc4 hf3 hf4 VA VB B3 hne
                      go_wp2_with fail
                      go_roundw
                      case rel =>
                        have hr1 : ∃ q : Nat, q ≤ 6 ∧ (.int .i64 ((k : Int) + 1) : Value) = .int .i64 ((q : Nat) : Int) ∧ Below wp.heap.size wp w9 := ⟨k + 1, HK.out, by simp, B5.out⟩
                        first | exact hr1 | ((repeat apply Exists.intro); exact ⟨hr1, rfl⟩)
                      case measure => simp only [intOf]; omega
                · have hin : k = 6 := by omega
                  subst hin
                  clear hk6 hge
                  go_wp2_with fail
                  go_roundw
                  case rel =>
                    have hr1 : ∃ q : Nat, q ≤ 7 ∧ (.int .i64 ((i : Int) + 1) : Value) = .int .i64 ((q : Nat) : Int) ∧ Below wp.heap.size wp wr := ⟨i + 1, HI.out.1, by simp, BR.out⟩
                    first | exact hr1 | ((repeat apply Exists.intro); exact ⟨hr1, rfl⟩)
                  case measure => simp only [intOf]; omega
            · have hin : i = 7 := by omega
              subst hin
              clear hi hge
              have BF := Lib.hid (below_step BW.out (B9.out.trans (BR.out.mono B9.out.size)))
              go_wp2_with fail
              refine (lives_any wr (HM.out.below H2.out BF.out) (by have := H2.out; have := BF.out.size; omega)).mono ?_
              rintro e w9 ⟨rfl, hb⟩
              have BL := Lib.hid (below_step BF.out hb)
              clear hb
              go_wp2_with fail
              go_ret
              exact ⟨rfl, BL.out⟩
end Go.Proofs.Ytbfhilbagojdnaa
