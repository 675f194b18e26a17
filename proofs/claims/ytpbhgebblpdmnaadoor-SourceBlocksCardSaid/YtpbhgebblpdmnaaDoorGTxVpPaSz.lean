/-
  Contracts and words of several parts of the program (Tx, Vp, Pa, Sz), one after the other.
  Conditions: those that each says.
-/
import Derived.Test.YtpbhgebblpdmnaaDoorZ
import Derived.Test.YtpbhgebblpdmnaaDoorSa
namespace Go.Proofs.YtpbhgebblpdmnaaDoor
open Go.RowKit Wr Src
set_option linter.unusedVariables false
set_option maxRecDepth 100000
/-! What read answers is one thing. -/
theorem rdis_uniq {S : Str} {n n2 : Nd} {p p2 e e2 : Nat} (h : RdIs S n p e) (h2 : RdIs S n2 p2 e2) : n = n2 ∧ p = p2 ∧ e = e2 := by
 obtain ⟨a, s, h1, _, h3, h4⟩ := h
 obtain ⟨b, t, k1, _, k3, k4⟩ := h2
 have := ev_uniq h1 k1
 injection this with e1 e2
 subst e1 e2
 by_cases hc : s.at' (LX S 0).2 < S.length ∨ s.e ≠ 0
 ·
  obtain ⟨a1, a2, a3⟩ := h3 hc
  obtain ⟨b1, b2, b3⟩ := k3 hc
  exact ⟨a1.trans b1.symm, a2.trans b2.symm, a3.trans b3.symm⟩
 ·
  obtain ⟨a1, a2, a3⟩ := h4 hc
  obtain ⟨b1, b2, b3⟩ := k4 hc
  exact ⟨a1.trans b1.symm, a2.trans b2.symm, a3.trans b3.symm⟩
theorem rdis_zero {S : Str} {n : Nd} {p e : Nat} (h : RdIs S n p e) (he : e = 0) : p = 0 := by
 obtain ⟨a, s, _, _, h3, h4⟩ := h
 by_cases hc : s.at' (LX S 0).2 < S.length ∨ s.e ≠ 0
 ·
  obtain ⟨_, _, a3⟩ := h3 hc
  rw [he] at a3
  split at a3
  ·
   cases a3
  ·
   rename_i h; exact absurd a3.symm h
 ·
  exact (h4 hc).2.1
theorem rdis_ok {S : Str} {n : Nd} : RdIs S n 0 0 ↔ RdOk S n := by
 constructor
 ·
  rintro ⟨a, s, h1, h2, h3, h4⟩
  have hc : ¬ (s.at' (LX S 0).2 < S.length ∨ s.e ≠ 0) := fun hc => by
   obtain ⟨_, _, a3⟩ := h3 hc
   split at a3
   ·
    cases a3
   ·
    rename_i h; exact absurd a3.symm h
  obtain ⟨rfl, _, _⟩ := h4 hc
  have he : s.e = 0 := Decidable.byContradiction fun h => hc (Or.inr h)
  have hat : S.length ≤ s.at' (LX S 0).2 := by
   rcases Nat.lt_or_ge (s.at' (LX S 0).2) S.length with h | h
   ·
    exact absurd (Or.inl h) hc
   ·
    exact h
  have hle := (lx_end S.length S 0 (Nat.le_refl _)).1
  obtain ⟨ts, se⟩ := s
  dsimp only at he
  subst he
  cases ts with
  | nil =>
   unfold St.at' plc at hat
   refine ⟨by simp at hat; omega, h1⟩
  | cons t R =>
   obtain ⟨t, p⟩ := t
   obtain ⟨k1, k2, _⟩ := lxi_next h2 (t := t) (p := p) (R := R) rfl
   unfold St.at' plc at hat
   have : 0 < t.length := by cases t with | nil => exact absurd rfl k2 | cons a b => simp
   dsimp only at hat
   omega
 ·
  rintro ⟨h1, h2⟩
  refine ⟨n, Src.S [], h2, ⟨S.length, Nat.le_refl _, ?_⟩, fun hc => ?_, fun _ => ⟨rfl, rfl, rfl⟩⟩
  ·
   rw [List.drop_length, LX_nil, h1]; rfl
  ·
   rcases hc with hc | hc
   ·
    have e : (Src.S []).at' (LX S 0).2 = (LX S 0).2 := rfl
    rw [e, h1] at hc; omega
   ·
    exact absurd rfl hc
def TxP (n : Nd) (w : World) (en : Ending) (w' : World) : Prop := ∃ (T : Str) (r : Bool), en = .returned (.tuple #[sv T, .bool r]) ∧ Below w.heap.size w w' ∧ (r = true ↔ vDef n) ∧ (r = true → T = txt 24 n)
theorem tx_valid {n : Nd} (h : vDef n) : (wNode 24 n ⟨[], false⟩).text = txt 24 n := by rw [(write_right h.2.2.1).1 h.2.2.2]
set_option maxHeartbeats 4000000 in
theorem textOf_any {B : Nat} {w : World} {P : Nat → Prop} (ht : Tab B w) (n : Nd) (cs : List Value) (hv : NV w P n cs) : Calls Tryd.prog 16 #[.agg cs.toArray] w (TxP n w) := by
 obtain ⟨nk, nt, nz, nl⟩ := n
 obtain ⟨A0, C0, ys0, hcs, _⟩ := hv.form
 subst hcs
 obtain ⟨L0, hL0⟩ : ∃ L, L = nl.length := ⟨_, rfl⟩
 unfold NC at *
 rw [← hL0] at hv ⊢
 clear hL0
 obtain ⟨wb, hwb⟩ : ∃ wb, wb = w.heap.size := ⟨_, rfl⟩
 have HWB := Lh hwb
 have HWb := Lh hwb.symm
 obtain ⟨w1, hw1⟩ : ∃ w1, w1 = w.alloc (.cells #[.int .i64 nk, .string ⟨nt.toArray⟩, .int .i64 nz, .slice A0 L0 C0] 25) := ⟨_, rfl⟩
 have l1 : Below w.heap.size w w1 := by rw [hw1]; exact (Below.refl _ _).alloc (Nat.le_refl _) _
 have Z1 := Lh (show Blk w1 wb 25 [iv nk, sv nt, iv nz, .slice A0 L0 C0] by rw [hw1, hwb]; exact Blk.new w _ _)
 have L1 := Lh l1
 have T1 := Lh (ht.below l1)
 have V1 := Lh (hv.any.anyBelow l1)
 have W1 := Lh hw1
 have HWr := Lh (write_any T1.out (.mk nk nt nz nl) _ V1.out)
 have HVI := Lh (valid_iff (.mk nk nt nz nl))
 have HTV := Lh (fun h => tx_valid (n := .mk nk nt nz nl) h)
 have hlim := lim_node 24 (.mk nk nt nz nl) 0 ⟨[], false⟩ ⟨fun _ => by simp, by simp⟩
 generalize wNode 24 (.mk nk nt nz nl) ⟨[], false⟩ = X at HWr HVI HTV hlim
 have HXl := Lh (show X.text.length ≤ 4294967295 by have := hlim.2; omega)
 obtain ⟨N, hN⟩ : ∃ N, N = Nd.mk nk nt nz nl := ⟨_, rfl⟩
 rw [← hN] at HVI HTV V1 ⊢
 have HN := Lh hN
 clear ht hv hwb hw1 l1 hlim hN
 go_enter Tryd.func16, Tryd.ntmps16
 go_upto_region 1 with fail
 rw [HWb.out]
 change Code.wp _ _ _ _ (w.alloc (.cells #[.int .i64 nk, .string ⟨nt.toArray⟩, .int .i64 nz, .slice A0 L0 C0] 25))
 rw [← W1.out]
 go_wp2_with (first | (with_reducible refine wpList_load_cells rfl 25 4 size25 (.tmp 1) rfl ⟨wb, 0, none⟩ rfl [iv nk, sv nt, iv nz, .slice A0 L0 C0] rfl _ Tryd.underlying25 rfl Z1.out.at ?_))
 refine HWr.out.mono ?_
 rintro e w2 ⟨rfl, b2⟩
 have L2 := Lh (below_step L1.out b2)
 have T2 := Lh (T1.out.below b2)
 have Z2 := Lh (Z1.out.below b2 Z1.out.lt)
 have V2 := Lh (V1.out.anyBelow b2)
 clear b2 L1 T1 Z1 V1 HWr
 obtain ⟨xb, hxb⟩ : ∃ b, b = X.bad := ⟨_, rfl⟩
 rw [← hxb] at HVI ⊢
 have HXB := Lh hxb
 clear hxb
 cases xb with
 | true =>
  go_wp2_with fail
  exact bodyPost_ret (v := .tuple #[sv [], .bool false]) (by simp [results]) rfl ⟨[], false, rfl, L2.out, ⟨fun e => (by cases e), fun e => by have := (HVI.out.1 e).1; cases this⟩, fun e => (by cases e)⟩
 | false =>
  have HRd := Lh (read_any X.text w2 T2.out HXl.out)
  go_wp2_with fail
  refine HRd.out.mono ?_
  rintro e w3 ⟨n5, p5, e5, cs5, rfl, hr5, hv5, b3⟩
  obtain ⟨ak, at', az, al⟩ := n5
  obtain ⟨A1, c1, ys1, hcs, _⟩ := hv5.form
  subst hcs
  have HR5 := Lh hr5
  have VA3 := Lh hv5.any
  have L3 := Lh (below_step L2.out b3)
  have Z3 := Lh (Z2.out.below b3 Z2.out.lt)
  have V3 := Lh (V2.out.anyBelow b3)
  clear hr5 hv5 b3 HRd L2 T2 Z2 V2
  dsimp only [NC]
  go_upto_region 5 with fail
  obtain ⟨nb, hnb⟩ : ∃ g, w3.heap.size = g := ⟨_, rfl⟩
  obtain ⟨w4, hw4⟩ : ∃ w4, w3.alloc (.cells #[.int .i64 ak, .string ⟨at'.toArray⟩, .int .i64 az, .slice A1 al.length c1] 25) = w4 := ⟨_, rfl⟩
  have l4 := show Below w3.heap.size w3 w4 by rw [← hw4]; exact (Below.refl _ _).alloc (Nat.le_refl _) _
  have N4 := Lh (show Blk w4 nb 25 [iv ak, sv at', iv az, .slice A1 al.length c1] by rw [← hw4, ← hnb]; exact Blk.new w3 _ _)
  have VA4 := Lh (VA3.out.anyBelow l4)
  have L4 := Lh (below_step L3.out l4)
  have Z4 := Lh (Z3.out.below l4 Z3.out.lt)
  have V4 := Lh (V3.out.anyBelow l4)
  rw [hnb, hw4]
  clear l4 hw4 hnb L3 Z3 V3 VA3
  by_cases he : e5 = 0
  ·
   have heI : ((e5 : Int) == 0) = true := by rw [he]; rfl
   have HSm := Lh (same_of VA4.out V4.out)
   have HRZ := Lh (show RdIs X.text (.mk ak at' az al) 0 0 by
    have := rdis_zero HR5.out he
    have h := HR5.out
    rw [he, this] at h
    exact h)
   clear he
   have d0 := N4.out.cell 0; have d1 := N4.out.cell 1; have d2 := N4.out.cell 2; have d3 := N4.out.cell 3
   have z0 := Z4.out.cell 0; have z1 := Z4.out.cell 1; have z2 := Z4.out.cell 2; have z3 := Z4.out.cell 3
   simp only [List.getElem?_cons_zero, List.getElem?_cons_succ] at d0 d1 d2 d3 z0 z1 z2 z3
   dsimp only [NC] at HSm
   go_wp2_with fail
   clear d0 d1 d2 d3 z0 z1 z2 z3
   refine HSm.out.mono ?_
   rintro e w5 ⟨r, rfl, hr, b5⟩
   have HRr := Lh hr
   have L5 := Lh (below_step L4.out b5)
   clear hr b5 HSm
   go_wp2_with fail
   refine bodyPost_ret (v := .tuple #[sv X.text, .bool r]) (by simp [results]) rfl ⟨X.text, r, rfl, L5.out, ?_, ?_⟩
   ·
    constructor
    ·
     intro e
     refine HVI.out.2 ⟨(by trivial), rdis_ok.1 ?_⟩
     have := HRr.out.1 e
     rw [← this]
     exact HRZ.out
    ·
     intro e
     exact HRr.out.2 (rdis_uniq HRZ.out (rdis_ok.2 (HVI.out.1 e).2)).1
   ·
    intro e
    refine HTV.out (HVI.out.2 ⟨(by trivial), rdis_ok.1 ?_⟩)
    have := HRr.out.1 e
    rw [← this]
    exact HRZ.out
  ·
   have heI : ((e5 : Int) == 0) = false := by rw [beq_eq_false_iff_ne]; omega
   have HNo := Lh (show ¬ vDef N from fun e => he (rdis_uniq HR5.out (rdis_ok.2 (HVI.out.1 e).2)).2.2)
   clear he
   go_wp2_with fail
   exact bodyPost_ret (v := .tuple #[sv X.text, .bool false]) (by simp [results]) rfl ⟨X.text, false, rfl, L4.out, ⟨fun e => (by cases e), fun e => absurd e HNo.out⟩, fun e => (by cases e)⟩
end Go.Proofs.YtpbhgebblpdmnaaDoor
namespace Go.Proofs.YtpbhgebblpdmnaaDoor
open Go.RowKit Wr Src
set_option linter.unusedVariables false
set_option maxRecDepth 100000
def VlP (n : Nd) (w : World) (en : Ending) (w' : World) : Prop := ∃ r : Bool, en = .returned (.bool r) ∧ Below w.heap.size w w' ∧ (r = true ↔ vDef n)
def PrP (n : Nd) (w : World) (en : Ending) (w' : World) : Prop := ∃ T : Str, en = .returned (sv T) ∧ Below w.heap.size w w' ∧ (vDef n → T = txt 24 n) ∧ (¬ vDef n → T = [])
section
variable {B : Nat} {w : World} {P : Nat → Prop}
set_option maxHeartbeats 4000000 in
theorem valid_any (ht : Tab B w) (n : Nd) (cs : List Value) (hv : NV w P n cs) : Calls Tryd.prog 8 #[.agg cs.toArray] w (VlP n w) := by
 obtain ⟨nk, nt, nz, nl⟩ := n
 obtain ⟨A0, C0, ys0, hcs, _⟩ := hv.form
 subst hcs
 obtain ⟨L0, hL0⟩ : ∃ L, L = nl.length := ⟨_, rfl⟩
 unfold NC at *
 rw [← hL0] at hv ⊢
 clear hL0
 obtain ⟨wb, hwb⟩ : ∃ wb, wb = w.heap.size := ⟨_, rfl⟩
 have HWB := Lh hwb
 have HWb := Lh hwb.symm
 obtain ⟨w1, hw1⟩ : ∃ w1, w1 = w.alloc (.cells #[.int .i64 nk, .string ⟨nt.toArray⟩, .int .i64 nz, .slice A0 L0 C0] 25) := ⟨_, rfl⟩
 have l1 : Below w.heap.size w w1 := by rw [hw1]; exact (Below.refl _ _).alloc (Nat.le_refl _) _
 have Z1 := Lh (show Blk w1 wb 25 [iv nk, sv nt, iv nz, .slice A0 L0 C0] by rw [hw1, hwb]; exact Blk.new w _ _)
 have L1 := Lh l1
 have W1 := Lh hw1
 have HTx := Lh (textOf_any (ht.below l1) (.mk nk nt nz nl) _ (hv.any.anyBelow l1))
 obtain ⟨N, hN⟩ : ∃ N, N = Nd.mk nk nt nz nl := ⟨_, rfl⟩
 rw [← hN] at HTx ⊢
 clear ht hv hwb hw1 l1 hN
 go_enter Tryd.func8, Tryd.ntmps8
 go_upto_region 1 with fail
 rw [HWb.out]
 change Code.wp _ _ _ _ (w.alloc (.cells #[.int .i64 nk, .string ⟨nt.toArray⟩, .int .i64 nz, .slice A0 L0 C0] 25))
 rw [← W1.out]
 go_wp2_with (first | (with_reducible refine wpList_load_cells rfl 25 4 size25 (.tmp 1) rfl ⟨wb, 0, none⟩ rfl [iv nk, sv nt, iv nz, .slice A0 L0 C0] rfl _ Tryd.underlying25 rfl Z1.out.at ?_))
 refine HTx.out.mono ?_
 rintro e w2 ⟨T, r, rfl, b2, h1, h2⟩
 have L2 := Lh (below_step L1.out b2)
 have H1 := Lh h1
 clear b2 h1 h2
 go_wp2_with fail
 exact bodyPost_ret (v := .bool r) (by simp [results]) rfl ⟨r, rfl, L2.out, H1.out⟩
set_option maxHeartbeats 4000000 in
theorem print_any (ht : Tab B w) (n : Nd) (cs : List Value) (hv : NV w P n cs) : Calls Tryd.prog 6 #[.agg cs.toArray] w (PrP n w) := by
 obtain ⟨nk, nt, nz, nl⟩ := n
 obtain ⟨A0, C0, ys0, hcs, _⟩ := hv.form
 subst hcs
 obtain ⟨L0, hL0⟩ : ∃ L, L = nl.length := ⟨_, rfl⟩
 unfold NC at *
 rw [← hL0] at hv ⊢
 clear hL0
 obtain ⟨wb, hwb⟩ : ∃ wb, wb = w.heap.size := ⟨_, rfl⟩
 have HWB := Lh hwb
 have HWb := Lh hwb.symm
 obtain ⟨w1, hw1⟩ : ∃ w1, w1 = w.alloc (.cells #[.int .i64 nk, .string ⟨nt.toArray⟩, .int .i64 nz, .slice A0 L0 C0] 25) := ⟨_, rfl⟩
 have l1 : Below w.heap.size w w1 := by rw [hw1]; exact (Below.refl _ _).alloc (Nat.le_refl _) _
 have Z1 := Lh (show Blk w1 wb 25 [iv nk, sv nt, iv nz, .slice A0 L0 C0] by rw [hw1, hwb]; exact Blk.new w _ _)
 have L1 := Lh l1
 have W1 := Lh hw1
 have HTx := Lh (textOf_any (ht.below l1) (.mk nk nt nz nl) _ (hv.any.anyBelow l1))
 obtain ⟨N, hN⟩ : ∃ N, N = Nd.mk nk nt nz nl := ⟨_, rfl⟩
 rw [← hN] at HTx ⊢
 clear ht hv hwb hw1 l1 hN
 go_enter Tryd.func6, Tryd.ntmps6
 go_upto_region 1 with fail
 rw [HWb.out]
 change Code.wp _ _ _ _ (w.alloc (.cells #[.int .i64 nk, .string ⟨nt.toArray⟩, .int .i64 nz, .slice A0 L0 C0] 25))
 rw [← W1.out]
 go_wp2_with (first | (with_reducible refine wpList_load_cells rfl 25 4 size25 (.tmp 1) rfl ⟨wb, 0, none⟩ rfl [iv nk, sv nt, iv nz, .slice A0 L0 C0] rfl _ Tryd.underlying25 rfl Z1.out.at ?_))
 refine HTx.out.mono ?_
 rintro e w2 ⟨T, r, rfl, b2, h1, h2⟩
 have L2 := Lh (below_step L1.out b2)
 cases r with
 | true =>
  have H1 := Lh (h1.1 rfl)
  have H2 := Lh (h2 rfl)
  clear b2 h1 h2
  go_wp2_with fail
  exact bodyPost_ret (v := sv T) (by simp [results]) rfl ⟨T, rfl, L2.out, fun _ => H2.out, fun e => absurd H1.out e⟩
 | false =>
  have H1 := Lh (show ¬ vDef N from fun e => by have := h1.2 e; cases this)
  clear b2 h1 h2
  go_wp2_with fail
  exact bodyPost_ret (v := sv []) (by simp [results]) rfl ⟨[], rfl, L2.out, fun e => absurd e H1.out, fun _ => rfl⟩
end
end Go.Proofs.YtpbhgebblpdmnaaDoor
namespace Go.Proofs.YtpbhgebblpdmnaaDoor
open Go.RowKit Wr Src
set_option linter.unusedVariables false
set_option maxRecDepth 100000
def PsIs (S : Str) (n : Nd) (p e : Nat) : Prop :=
 (1024 < S.length → n = .zero ∧ p = 1024 ∧ e = 4) ∧
 (S.length ≤ 1024 → ∃ n1 p1 e1, RdIs S n1 p1 e1 ∧ (e1 ≠ 0 → n = .zero ∧ p = p1 ∧ e = e1) ∧ (e1 = 0 → (wNode 24 n1 ⟨[], false⟩).bad = true → n = .zero ∧ p = 0 ∧ e = 4) ∧ (e1 = 0 → (wNode 24 n1 ⟨[], false⟩).bad = false → n = n1 ∧ p = 0 ∧ e = 0))
def PsP (S : Str) (w : World) (en : Ending) (w' : World) : Prop := ∃ n p e cs, en = .returned (.tuple #[.agg cs.toArray, nv p, nv e]) ∧ PsIs S n p e ∧ NV w' (fun k => w.heap.size ≤ k) n cs ∧ Below w.heap.size w w'
section
variable {B : Nat} {w : World}
set_option maxHeartbeats 4000000 in
theorem parse_any (S : Str) (ht : Tab B w) (hl : S.length ≤ 4294967295) : Calls Tryd.prog 7 #[sv S] w (PsP S w) := by
 have z1 := zero25
 obtain ⟨wb, hwb⟩ : ∃ wb, wb = w.heap.size := ⟨_, rfl⟩
 have HWB := Lh hwb
 have HWb := Lh hwb.symm
 obtain ⟨w0, hw0⟩ : ∃ w0, w0 = w.alloc (.cells #[.int .i64 0, .string ⟨#[]⟩, .int .i64 0, .slice none 0 0] 25) := ⟨_, rfl⟩
 have l0 : Below w.heap.size w w0 := by rw [hw0]; exact (Below.refl _ _).alloc (Nat.le_refl _) _
 have Z0 := Lh (show Blk w0 wb 25 [.int .i64 0, .string ⟨#[]⟩, .int .i64 0, .slice none 0 0] by rw [hw0, hwb]; exact Blk.new w _ _)
 have L0 := Lh l0
 have S0 := Lh (show w0.heap.size = wb + 1 by rw [hw0, hwb]; simp)
 have T0 := Lh (ht.below l0)
 have W0 := Lh hw0
 have hS : (⟨S.toArray⟩ : ByteArray).size = S.length := rfl
 have HLS := Lh hl
 have HBo : Hid (∀ W w8, Below w.heap.size w W → Kp (fun k => k = wb) W w8 → Below w.heap.size w w8) := Lh (fun W w8 h1 h2 => h1.trans (h2.below h1.size (fun k hk e => by omega)))
 clear ht hl hwb hw0 l0
 by_cases hlen : 1024 < S.length
 ·
  have hlI : (1024 : Int) < (S.length : Int) := by omega
  have HPI := Lh (show PsIs S .zero 1024 4 from ⟨fun _ => ⟨rfl, rfl, rfl⟩, fun h => by omega⟩)
  clear hlen
  go_enter Tryd.func7, Tryd.ntmps7
  go_upto_region 1 with fail
  rw [← W0.out, HWb.out]
  go_wp2_with (first | (with_reducible refine wpList_store_blk rfl 25 4 size25 (.tmp 2) (.tmp 13) rfl wb [.int .i64 0, .string ⟨#[]⟩, .int .i64 0, .slice none 0 0] rfl rfl _ Z0.out rfl rfl rfl ?_; intro w8 hb8 hk8))
  exact bodyPost_ret (v := .tuple #[.agg (NC 0 [] 0 (.slice none 0 0)).toArray, nv 1024, nv 4]) (box_res3 4 size25 rfl _ _ wb (NC 0 [] 0 (.slice none 0 0)) _ rfl rfl rfl hb8 rfl Tryd.underlying25 rfl) rfl ⟨.zero, 1024, 4, _, rfl, HPI.out, zero_nv _ _, HBo.out _ _ L0.out hk8⟩
 ·
  have hlI : ¬ (1024 : Int) < (S.length : Int) := by omega
  have HLe := Lh (show S.length ≤ 1024 by omega)
  have HRd := Lh (read_any S w0 T0.out HLS.out)
  clear hlen
  go_enter Tryd.func7, Tryd.ntmps7
  go_upto_region 1 with fail
  rw [← W0.out, HWb.out]
  go_wp2_with fail
  refine HRd.out.mono ?_
  rintro e w1 ⟨n5, p5, e5, cs5, rfl, hr5, hv5, b1⟩
  obtain ⟨ak, at', az, al⟩ := n5
  obtain ⟨A1, c1, ys1, hcs, _⟩ := hv5.form
  subst hcs
  have HR5 := Lh hr5
  have V1 := Lh (NV.keep (P' := fun k => wb + 1 ≤ k) (fun k h1 h2 => ⟨rfl, by have := S0.out; omega⟩) _ _ hv5)
  have L1 := Lh (below_step L0.out b1)
  have Z1 := Lh (Z0.out.below b1 Z0.out.lt)
  have T1 := Lh (T0.out.below b1)
  have S1 := Lh (show wb + 1 ≤ w1.heap.size by have := b1.size; have := S0.out; omega)
  clear hr5 hv5 b1 HRd Z0 T0 L0 S0
  dsimp only [NC]
  go_upto_region 4 with fail
  obtain ⟨nb, hnb⟩ : ∃ g, w1.heap.size = g := ⟨_, rfl⟩
  obtain ⟨w4, hw4⟩ : ∃ w4, w1.alloc (.cells #[.int .i64 ak, .string ⟨at'.toArray⟩, .int .i64 az, .slice A1 al.length c1] 25) = w4 := ⟨_, rfl⟩
  have l4 := show Below w1.heap.size w1 w4 by rw [← hw4]; exact (Below.refl _ _).alloc (Nat.le_refl _) _
  have N4 := Lh (show Blk w4 nb 25 [iv ak, sv at', iv az, .slice A1 al.length c1] by rw [← hw4, ← hnb]; exact Blk.new w1 _ _)
  have V4 := Lh (NV.keep (P' := fun k => wb + 1 ≤ k) (fun k h1 h2 => ⟨l4.block k h2, h1⟩) _ _ V1.out)
  have L4 := Lh (below_step L1.out l4)
  have Z4 := Lh (Z1.out.below l4 Z1.out.lt)
  have T4 := Lh (T1.out.below l4)
  rw [hnb, hw4]
  clear l4 hw4 hnb L1 Z1 T1 V1
  by_cases he : e5 = 0
  ·
   have heI : ((e5 : Int) == 0) = true := by rw [he]; rfl
   have heJ : ((e5 : Int) != 0) = false := by rw [bne, heI]; rfl
   have HWr := Lh (write_any T4.out (.mk ak at' az al) _ V4.out)
   obtain ⟨X, hX⟩ : ∃ X, X = wNode 24 (.mk ak at' az al) ⟨[], false⟩ := ⟨_, rfl⟩
   rw [← hX] at HWr
   have HX := Lh hX
   have HE := Lh he
   clear hX he
   go_wp2_with (first | (with_reducible refine wpList_load_cells rfl 25 4 size25 (.tmp 5) rfl ⟨nb, 0, none⟩ rfl [iv ak, sv at', iv az, .slice A1 al.length c1] rfl _ Tryd.underlying25 rfl N4.out.at ?_))
   refine HWr.out.mono ?_
   rintro e w5 ⟨rfl, b5⟩
   have L5 := Lh (below_step L4.out b5)
   have Z5 := Lh (Z4.out.below b5 Z4.out.lt)
   have N5 := Lh (N4.out.below b5 N4.out.lt)
   have V5 := Lh (NV.keep (P' := fun k => wb + 1 ≤ k) (fun k h1 h2 => ⟨b5.block k h2, h1⟩) _ _ V4.out)
   clear b5 L4 Z4 N4 V4 T4 HWr
   obtain ⟨xb, hxb⟩ : ∃ b, b = X.bad := ⟨_, rfl⟩
   rw [← hxb]
   have HXB := Lh (hxb.trans (by rw [HX.out]))
   clear hxb
   cases xb with
   | true =>
    have HPI := Lh (show PsIs S .zero 0 4 from ⟨fun h => absurd HLe.out (by omega), fun _ => ⟨_, _, _, HR5.out, fun h => absurd HE.out h, fun _ _ => ⟨rfl, rfl, rfl⟩, fun _ h => (by rw [← HXB.out] at h; cases h)⟩⟩)
    go_wp2_with (first | (with_reducible refine wpList_store_blk rfl 25 4 size25 (.tmp 2) (.tmp 32) rfl wb [.int .i64 0, .string ⟨#[]⟩, .int .i64 0, .slice none 0 0] rfl rfl _ Z5.out rfl rfl rfl ?_; intro w8 hb8 hk8))
    exact bodyPost_ret (v := .tuple #[.agg (NC 0 [] 0 (.slice none 0 0)).toArray, nv 0, nv 4]) (box_res3 4 size25 rfl _ _ wb (NC 0 [] 0 (.slice none 0 0)) _ rfl rfl rfl hb8 rfl Tryd.underlying25 rfl) rfl ⟨.zero, 0, 4, _, rfl, HPI.out, zero_nv _ _, HBo.out _ _ L5.out hk8⟩
   | false =>
    have HPI := Lh (show PsIs S (.mk ak at' az al) 0 0 from ⟨fun h => absurd HLe.out (by omega), fun _ => ⟨_, _, _, HR5.out, fun h => absurd HE.out h, fun _ h => (by rw [← HXB.out] at h; cases h), fun _ _ => ⟨rfl, rfl, rfl⟩⟩⟩)
    go_wp2_with (first
     | (with_reducible refine wpList_load_cells rfl 25 4 size25 (.tmp 5) rfl ⟨nb, 0, none⟩ rfl [iv ak, sv at', iv az, .slice A1 al.length c1] rfl _ Tryd.underlying25 rfl N5.out.at ?_)
     | (with_reducible refine wpList_store_blk rfl 25 4 size25 (.tmp 2) (.tmp 33) rfl wb [iv ak, sv at', iv az, .slice A1 al.length c1] rfl rfl _ Z5.out rfl rfl rfl ?_; intro w8 hb8 hk8))
    refine bodyPost_ret (v := .tuple #[.agg (NC ak at' az (.slice A1 al.length c1)).toArray, nv 0, nv 0]) (box_res3 4 size25 rfl _ _ wb _ _ rfl rfl rfl hb8 rfl Tryd.underlying25 rfl) rfl ⟨_, 0, 0, _, rfl, HPI.out, ?_, HBo.out _ _ L5.out hk8⟩
    exact NV.keep (fun k h1 h2 => ⟨rfl, by have h3 := HWB.out; omega⟩) _ _ (hk8.nv V5.out (fun k hk _ e => by omega))
  ·
   have heI : ((e5 : Int) == 0) = false := by rw [beq_eq_false_iff_ne]; omega
   have heJ : ((e5 : Int) != 0) = true := by rw [bne, heI]; rfl
   have HPI := Lh (show PsIs S .zero p5 e5 from ⟨fun h => absurd HLe.out (by omega), fun _ => ⟨_, _, _, HR5.out, fun _ => ⟨rfl, rfl, rfl⟩, fun h => absurd h he, fun h => absurd h he⟩⟩)
   clear he
   go_wp2_with (first | (with_reducible refine wpList_store_blk rfl 25 4 size25 (.tmp 2) (.tmp 22) rfl wb [.int .i64 0, .string ⟨#[]⟩, .int .i64 0, .slice none 0 0] rfl rfl _ Z4.out rfl rfl rfl ?_; intro w8 hb8 hk8))
   exact bodyPost_ret (v := .tuple #[.agg (NC 0 [] 0 (.slice none 0 0)).toArray, nv p5, nv e5]) (box_res3 4 size25 rfl _ _ wb (NC 0 [] 0 (.slice none 0 0)) _ rfl rfl rfl hb8 rfl Tryd.underlying25 rfl) rfl ⟨.zero, p5, e5, _, rfl, HPI.out, zero_nv _ _, HBo.out _ _ L4.out hk8⟩
end
end Go.Proofs.YtpbhgebblpdmnaaDoor
namespace Go.Proofs.YtpbhgebblpdmnaaDoor
open Go.RowKit Wr Src
set_option linter.unusedVariables false
set_option maxRecDepth 100000
mutual
def nsz : Nd → Nat
 | .mk _ _ _ l => 1 + nszL l
def nszL : List Nd → Nat
 | [] => 0
 | n :: l => nsz n + nszL l
end
theorem nsz_take : ∀ (l : List Nd) (i : Nat) (n : Nd), l[i]? = some n → nszL (l.take (i + 1)) = nszL (l.take i) + nsz n
 | [], i, n, h => by simp at h
 | m :: l, 0, n, h => by
  simp only [List.getElem?_cons_zero, Option.some.injEq] at h
  subst h
  simp [nszL]
 | m :: l, i + 1, n, h => by
  simp only [List.getElem?_cons_succ] at h
  have := nsz_take l i n h
  rw [List.take_succ_cons, List.take_succ_cons, nszL, nszL, this]; omega
theorem nsz_take_le : ∀ (l : List Nd) (i : Nat), nszL (l.take i) ≤ nszL l
 | [], i => by simp
 | m :: l, 0 => by simp [nszL]
 | m :: l, i + 1 => by
  rw [List.take_succ_cons, nszL, nszL]
  have := nsz_take_le l i
  omega
def SzC (a : Nd) : Prop := ∀ w ca, NV w Any a ca → nsz a ≤ 1000000000 → Calls Tryd.prog 25 #[.agg ca.toArray] w fun en w' => en = .returned (nv (nsz a)) ∧ Below w.heap.size w w'
set_option maxHeartbeats 4000000 in
theorem size_step (a : Nd) (IH : ∀ x ∈ a.kids, SzC x) : SzC a := by
 intro w ca ha hsz
 obtain ⟨ak, at', az, al⟩ := a
 obtain ⟨A1, c1, ys1, rfl, _, ha1, ha2, _, ha3, ha4⟩ := ha.form
 obtain ⟨La, hLa⟩ : ∃ n, n = al.length := ⟨_, rfl⟩
 obtain ⟨R, hR⟩ : ∃ n, n = nsz (.mk ak at' az al) := ⟨_, rfl⟩
 have HR := Lh (show R = 1 + nszL al by rw [hR, nsz])
 rw [← hR] at hsz ⊢
 clear hR
 have HLa := Lh hLa
 unfold NC
 rw [← hLa] at ha1 ha2 ⊢
 clear hLa ha
 obtain ⟨wb, hwb⟩ : ∃ wb, wb = w.heap.size := ⟨_, rfl⟩
 have HWb := Lh hwb.symm
 obtain ⟨w1, hw1⟩ : ∃ w1, w1 = w.alloc (.cells #[.int .i64 ak, .string ⟨at'.toArray⟩, .int .i64 az, .slice A1 La c1] 25) := ⟨_, rfl⟩
 have l1 : Below w.heap.size w w1 := by rw [hw1]; exact (Below.refl _ _).alloc (Nat.le_refl _) _
 have L1 := Lh l1
 have X1 := Lh (show Blk w1 wb 25 [iv ak, sv at', iv az, .slice A1 La c1] by rw [hw1, hwb]; exact Blk.new w _ _)
 have W1 := Lh hw1
 have HA := Lh (And.intro ha3 ha4)
 have HIH := Lh IH
 have y3 := X1.out.cell 3
 simp only [List.getElem?_cons_zero, List.getElem?_cons_succ] at y3
 have hRI : (R : Int) ≤ 1000000000 := by omega
 clear hwb hw1 l1 ha3 ha4 IH
 go_enter Tryd.func25, Tryd.ntmps25
 go_upto_region 1 with fail
 rw [HWb.out]
 change Code.wp _ _ _ _ (w.alloc (.cells #[.int .i64 ak, .string ⟨at'.toArray⟩, .int .i64 az, .slice A1 La c1] 25))
 rw [← W1.out]
 go_wp2_with fail
 clear y3
 go_loopw [3, 9] (fun s3 s9 wr => ∃ (i t : Nat), i ≤ La ∧ s9 = .int .i64 (i : Int) ∧ s3 = .int .i64 (t : Int) ∧ t ≤ R ∧ Hid (t = 1 + nszL (al.take i)) ∧ Hid (Below w.heap.size w wr)) (fun _ s9 _ => La - (intOf s9).toNat)
 case atStart => exact ⟨0, 1, Nat.zero_le _, rfl, rfl, by have := HR.out; omega, Lh (by simp [nszL]), L1⟩
 case round =>
  obtain ⟨i, t, hi, rfl, rfl, htR, HT, Br⟩ := hrel
  rcases Nat.lt_or_ge i La with hlt | hge
  ·
   have hiI : (i : Int) < (La : Int) := by omega
   obtain ⟨p, hp⟩ : ∃ p, al[i]? = some p := ⟨_, List.getElem?_eq_getElem (by rw [← HLa.out]; exact hlt)⟩
   have hkp : ∀ g, Any g → g < w.heap.size → wr.heap[g]? = w.heap[g]? ∧ Any g := fun g h1 h2 => ⟨Br.out.block g h2, trivial⟩
   obtain ⟨ga, oa, hA, hka⟩ := kid_at (HA.out.1.keep hkp) (NL.keep hkp _ _ HA.out.2) (by rintro rfl; simp at hp)
   obtain ⟨pk, pt', pz, A3, pl, c3, hpe, vp, hca⟩ := hka i p hp
   subst hA
   have hts := nsz_take al i p hp
   have hle := nsz_take_le al (i + 1)
   have HTn := Lh (show t + nsz p = 1 + nszL (al.take (i + 1)) by rw [hts]; have := HT.out; omega)
   have htn : t + nsz p ≤ R := by have := HTn.out; have := HR.out; omega
   have HIp := HIH.out _ (List.mem_of_getElem? hp)
   have hp9 : nsz p ≤ 1000000000 := by omega
   obtain ⟨u, hu⟩ : ∃ u, u = nsz p := ⟨_, rfl⟩
   rw [← hu] at HTn htn hp9
   obtain ⟨w3, hw3⟩ : ∃ w3, w3 = wr.alloc (.cells #[.int .i64 pk, .string ⟨pt'.toArray⟩, .int .i64 pz, .slice A3 pl.length c3] 25) := ⟨_, rfl⟩
   have l3 : Below wr.heap.size wr w3 := by rw [hw3]; exact (Below.refl _ _).alloc (Nat.le_refl _) _
   have X3 := Lh (show Blk w3 wr.heap.size 25 [iv pk, sv pt', iv pz, .slice A3 pl.length c3] by rw [hw3]; exact Blk.new wr _ _)
   have HC := Lh (HIp w3 _ (vp.anyBelow l3) (by rw [← hu]; exact hp9))
   rw [← hu] at HC
   have B3 := Lh (Br.out.trans (l3.mono Br.out.size))
   have W3 := Lh hw3
   have CA := Lh hca
   have hc1I : (La : Int) ≤ (c1 : Int) := by omega
   have q1 : IntKind.i64.wrap ((t : Int) + (u : Int)) = (t : Int) + (u : Int) := IntWalk.i64_in _ (by omega)
   clear hp hkp hka vp hca HT hts hle HIp hu l3 hw3 hpe
   go_upto_region 5 with (first | (with_reducible refine wpList_load_cells rfl 25 4 size25 (.tmp 11) rfl ⟨ga, oa + i * 4, none⟩ rfl [iv pk, sv pt', iv pz, .slice A3 pl.length c3] rfl _ Tryd.underlying25 rfl CA.out ?_))
   change Code.wp _ _ _ _ (wr.alloc (.cells #[.int .i64 pk, .string ⟨pt'.toArray⟩, .int .i64 pz, .slice A3 pl.length c3] 25))
   rw [← W3.out]
   go_wp2_with (first | (with_reducible refine wpList_load_cells rfl 25 4 size25 (.tmp 5) rfl ⟨wr.heap.size, 0, none⟩ rfl [iv pk, sv pt', iv pz, .slice A3 pl.length c3] rfl _ Tryd.underlying25 rfl X3.out.at ?_))
   refine HC.out.mono ?_
   rintro e w5 ⟨rfl, b5⟩
   have B5 := Lh (B3.out.trans (b5.mono B3.out.size))
   clear b5 HC
   go_wp2_with fail
   go_roundw
   case rel => exact ⟨i + 1, t + u, by omega, by simp, by simp, htn, HTn, B5⟩
   case measure => simp only [intOf]; omega
  ·
   obtain rfl : i = La := by omega
   have HE := Lh (show t = R by
    have h1 := HT.out
    rw [List.take_of_length_le (by rw [← HLa.out]; exact Nat.le_refl _)] at h1
    rw [h1, HR.out])
   clear HT
   go_wp2_with fail
   exact bodyPost_ret (v := nv t) (by simp [results]) rfl ⟨by rw [HE.out], Br.out⟩
theorem size_any : ∀ (n : Nat) (a : Nd), SizeOf.sizeOf a ≤ n → SzC a
 | 0, a, h => by cases a; simp at h
 | n + 1, a, h => size_step a (fun x hx => size_any n x (by
  obtain ⟨k, t, z, l⟩ := a
  have h1 := List.sizeOf_lt_of_mem (show x ∈ l from hx)
  have h2 := Nd.mk.sizeOf_spec k t z l
  omega))
theorem size_of {w : World} {P : Nat → Prop} {a : Nd} {ca : List Value} (ha : NV w P a ca) (hs : nsz a ≤ 1000000000) : Calls Tryd.prog 25 #[.agg ca.toArray] w fun en w' => en = .returned (nv (nsz a)) ∧ Below w.heap.size w w' := size_any _ a (Nat.le_refl _) w ca ha.any hs
end Go.Proofs.YtpbhgebblpdmnaaDoor
