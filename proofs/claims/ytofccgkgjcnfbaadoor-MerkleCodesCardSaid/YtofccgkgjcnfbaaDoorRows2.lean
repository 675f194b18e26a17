/-
  The contracts of merkle's row and divided.
  Conditions: the function that is handed on does as Told says.
-/
import Derived.Test.YtofccgkgjcnfbaaDoorZ
import Derived.Test.YtofccgkgjcnfbaaDoorGHalfLfSingleTold
import Derived.Deep.DeepCutAuto
import Derived.Laws.EntriesVeiled
set_option linter.unusedSimpArgs false
namespace Go.Proofs.YtofccgkgjcnfbaaDoor
open Go.RowKit Wr Sh
set_option linter.unusedVariables false
set_option maxRecDepth 100000
section
variable {σ : Type} {K : Nat} {caps : Array Value} {G : σ → Nat → Nat → (List UInt8 × Bool) × σ} {N B : Nat} {Inv : σ → (Nat → Prop) → World → Prop} {P : σ → Nat → Prop} {s : σ} {O0 : Nat → Prop} {w W : World} {bl br : Option Nat}
abbrev kRows2_0 : Oper := { dst := some 30, op := Op.call { callee := Callee.value (Operand.tmp 27), args := #[Operand.tmp 28, Operand.tmp 29], argTypes := #[3, 3] }, type := 29, pos := "merkle.go:158", after := #[dD 0, dD 1, dD 2], guard := none }
abbrev kRows2_1 : Oper := { dst := some 10, op := Op.alloc 29, type := 0, pos := "merkle.go:158", after := #[], guard := none }
abbrev kRows2_2 : Oper := { dst := some 11, op := Op.alloc 29, type := 0, pos := "merkle.go:158", after := #[], guard := none }
abbrev kRows2_3 : Oper := { dst := some 34, op := Op.call { callee := Callee.value (Operand.tmp 31), args := #[Operand.tmp 32, Operand.tmp 33], argTypes := #[3, 3] }, type := 29, pos := "merkle.go:158", after := #[dD 4, dD 5, dD 6, dC 3], guard := none }
abbrev kRows2_4 : Oper := { dst := none, op := Op.store 29 (Operand.tmp 10) (Operand.tmp 30), type := 0, pos := "merkle.go:158", after := #[dD 8, dD 3, dC 7, dP 0, dP 1, dP 2, dP 3, { on := 4, ground := Ground.textOnly Departure.inlinedCapture }, dT 5, dT 6, dP 7, dP 8, dP 9], guard := none }
abbrev kRows2_5 : Oper := { dst := none, op := Op.store 29 (Operand.tmp 11) (Operand.tmp 34), type := 0, pos := "merkle.go:158", after := #[dD 9, dD 7, dC 10, dP 0, dP 1, dP 2, dP 3, dP 4, dP 5, dP 6, dP 7, dP 8, dP 9, dP 10], guard := none }
theorem keep_row {g : Nat} (h : S5 Inv B O0 w s (some g) br W) {p : Addr} {v : Value} (hp : w.cell? p = some v) (hpo : ¬ O0 p.block) {c : Array Value} : (W.setRow g c).cell? p = some v := by
 obtain ⟨O, h1, h2, h3, h4, h5⟩ := h
 have hl := World.block_lt_of_cell? _ _ hp
 have := (h3 g rfl).2.1
 exact (World.cell?_of_block (heap_setRow_other _ _ _ _ (by omega))).trans (h1.fr.cell hp hpo)
theorem E5.cell {D1 D2 : List UInt8} {gl gq : Nat} (h : E5 Inv O0 w s D1 D2 gl gq W) {p : Addr} {v : Value} (hp : w.cell? p = some v) (hpo : ¬ O0 p.block) : W.cell? p = some v := by
 obtain ⟨O, h1, _⟩ := h; exact h1.fr.cell hp hpo
theorem E5.keep {D1 D2 : List UInt8} {gl gq g : Nat} (h : E5 Inv O0 w s D1 D2 gl gq W) (h1 : gl ≠ g) (h2 : gq ≠ g) (c : Array Value) : Blk (W.setRow g c) gl 29 (B8 D1) ∧ Blk (W.setRow g c) gq 29 (B8 D2) :=
 ⟨h.blks.1.setRow h1 c, h.blks.2.setRow h2 c⟩
theorem row_len (T : Told K caps G N B Inv P) (s : σ) (a b : Nat) : (rowG node G s a b).1.length = 16 := by
 suffices h : ∀ n (s : σ) (a b : Nat), b - a ≤ n → (rowG node G s a b).1.length = 16 from h _ s a b (Nat.le_refl _)
 intro n
 induction n with
 | zero =>
  intro s a b h
  have h1 := T.one s a b (by omega)
  have h2 := T.len s a b
  rw [rowG_told node (d := (G s a b).1.1) (s' := (G s a b).2) (by rw [← h1])]
  exact h2
 | succ n ih =>
  intro s a b h
  by_cases ht : (G s a b).1.2 = true
  ·
   have h2 := T.len s a b
   rw [rowG_told node (d := (G s a b).1.1) (s' := (G s a b).2) (by rw [← ht])]
   exact h2
  ·
   have hb1 : 1 < b - a := by
    rcases Nat.lt_or_ge 1 (b - a) with h | h
    ·
     exact h
    ·
     exact absurd (T.one s a b h) ht
   rw [rowG_split node (d := (G s a b).1.1) (s' := (G s a b).2) (by rw [← (Bool.eq_false_iff.2 ht)]) hb1]
   exact dof_len _ _
theorem E5.apart {D1 D2 : List UInt8} {gl gq : Nat} (h : E5 Inv O0 w s D1 D2 gl gq W) : gl ≠ w.heap.size ∧ gq ≠ w.heap.size := ⟨h.far.1, h.far.2⟩
theorem row_pos (T : Told K caps G N B Inv P) (s : σ) (a b : Nat) (hab : a < b) (hp : P s a) : P (rowG node G s a b).2 b := by
 suffices h : ∀ n (s : σ) (a b : Nat), b - a ≤ n → a < b → P s a → P (rowG node G s a b).2 b from h _ s a b (Nat.le_refl _) hab hp
 intro n
 induction n with
 | zero => intro s a b h1 h2; omega
 | succ n ih =>
  intro s a b h hab hp
  by_cases ht : (G s a b).1.2 = true
  ·
   rw [rowG_told node (d := (G s a b).1.1) (s' := (G s a b).2) (by rw [← ht])]
   exact T.next s a b hp hab ht
  ·
   have hf := Bool.eq_false_iff.2 ht
   have hb1 : 1 < b - a := by
    rcases Nat.lt_or_ge 1 (b - a) with h | h
    ·
     exact h
    ·
     exact absurd (T.one s a b h) ht
   have := half_lt hb1
   have := half_pos (b - a)
   rw [rowG_split node (d := (G s a b).1.1) (s' := (G s a b).2) (by rw [← hf]) hb1]
   exact ih _ _ _ (by omega) (by omega) (ih _ _ _ (by omega) (by omega) (T.same s a b hp hab hf))
def RowPost (Inv : σ → (Nat → Prop) → World → Prop) (R : List UInt8) (s : σ) (O : Nat → Prop) (w : World) (e : Ending) (w' : World) : Prop := e = .returned (.agg (B8 R).toArray) ∧ ∃ O', Inv s O' w' ∧ Fr O O' w w'
set_option maxHeartbeats 8000000 in
theorem row_any (T : Told K caps G N B Inv P) (hN : N ≤ 1073741824) (n : Nat) : ∀ (a b : Nat) (s : σ) (O : Nat → Prop) (w : World) (gg gr : Nat), b - a ≤ n → a < b → b ≤ N → Inv s O w → P s a →
  w.cell? ⟨gg, 0, none⟩ = some (.func (.func K) #[] caps) → w.cell? ⟨gr, 0, none⟩ = some (.func (.func 103) #[] #[.pointer (some ⟨gg, 0, none⟩), .pointer (some ⟨gr, 0, none⟩)]) → ¬ O gg → ¬ O gr →
  Calls Tryd.prog 103 #[.int .i64 (a : Int), .int .i64 (b : Int), .pointer (some ⟨gg, 0, none⟩), .pointer (some ⟨gr, 0, none⟩)] w (RowPost Inv (rowG node G s a b).1 (rowG node G s a b).2 O w) := by
 induction n with
 | zero => intros; omega
 | succ n ih =>
  intro a b s O w gg gr hba hab hbN hi hps hgg hgr hog hor
  have HIH := Lh ih
  have HP := Lh hps
  have HGG := Lh (And.intro hgg hog)
  have HGR := Lh (And.intro hgr hor)
  have HB := Lh (T.lt _ _ _ hi).1
  have eg := T.enters
  have hZ := hZ16
  obtain ⟨W1, hW1⟩ : ∃ W, W = w.alloc (.cells Z16.toArray 29) := ⟨_, rfl⟩
  have K1 := Lh (S5.first T hi hW1)
  have HW := Lh hW1
  clear ih hgg hgr hog hor hi hW1 hps
  obtain ⟨s2, D, t, hG⟩ : ∃ s2 D t, G s a b = ((D, t), s2) := ⟨_, _, _, rfl⟩
  have HDl := Lh (show D.length = 16 by have := T.len s a b; rw [hG] at this; exact this)
  have HC : Hid (∀ oo W, Inv s oo W → Calls Tryd.prog K (#[.int .i64 (a : Int), .int .i64 (b : Int)] ++ caps) W fun e W' => e = .returned (.tuple #[.agg (B8 D).toArray, .bool t]) ∧ ∃ O', Inv s2 O' W' ∧ Fr oo O' W W') := Lh (fun oo W h => by
   have := T.call s oo W a b h HP.out hab hbN
   rw [hG] at this
   exact this)
  have HG := Lh hG
  clear hG
  have hlt := Lh (World.block_lt_of_cell? _ _ HGG.out.1)
  go_enter Tryd.func103, Tryd.ntmps103
  go_upto_region 1 with fail
  rw [← HW.out]
  obtain ⟨oo, hi, hh, hn⟩ := K1.out.call HGG.out.1 HGG.out.2 HGR.out.1 HGR.out.2
  have HN := Lh hn
  have HH := Lh hh
  have HI := Lh hi
  clear hn hh hi
  have hcg := HH.out.1
  go_wp2_with fail
  refine (HC.out oo _ HI.out).mono ?_; rintro e w2 ⟨rfl, ox, hix, hfx⟩
  have k2 := Lh (HN.out _ _ _ hix hfx)
  clear hix hfx HN HH HI hcg
  obtain ⟨W3, hW3⟩ : ∃ W, W = (w2.alloc (.cells Z16.toArray 29)).setRow w2.heap.size (B8 D).toArray := ⟨_, rfl⟩
  have k3 := Lh (show S5 Inv B O w s2 none none W3 by rw [hW3]; exact k2.out.below T (belowRow ((Below.refl _ _).alloc (Nat.le_refl _) _) (Nat.le_refl _) _))
  have D3 := Lh (show Blk W3 w2.heap.size 29 (B8 D) by rw [hW3]; exact (Blk.new w2 29 Z16).row _)
  have HW3 := Lh hW3
  clear hW3
  cases t with
  | true =>
   have HR := Lh (rowG_told node HG.out)
   have L3 := Lh D3.out.at
   have Z3 := Lh k3.out.box
   go_wp2_with (first
    | (with_reducible refine wpList_store_row rfl 29 (.tmp 7) (.tmp 17) rfl w2.heap.size (B8 D).toArray rfl rfl 29 _ (heap_alloc_new w2 _) (size29' _ HDl.out) (Z16_size _ HDl.out) (one8 _) ?_; rw [← HW3.out])
    | (with_reducible refine wpList_load_at rfl 29 (.tmp 7) rfl ⟨w2.heap.size, 0, none⟩ rfl (B8 D) (.array 16 5) L3.out Tryd.underlying29 rfl (size29 _ HDl.out) ?_)
    | (with_reducible refine wpList_store_row rfl 29 (.tmp 6) (.tmp 20) rfl w.heap.size (B8 D).toArray rfl rfl 29 _ Z3.out (size29' _ HDl.out) (Z16_size _ HDl.out) (one8 _) ?_))
   refine bodyPost_ret (v := .agg (B8 D).toArray) ?_ rfl ?_
   ·
    have hr := run_loadVar_row (P := Tryd.prog) _ w.heap.size 29 29 (B8 D).toArray (0, 0) (.array 16 5) (heap_setRow W3 w.heap.size (B8 D).toArray _ 29 Z3.out) Tryd.underlying29 rfl (size29' _ HDl.out)
    simp [results, Tryd.results103, asAddr, hr, Act.put]
   ·
    rw [HR.out]; exact ⟨rfl, k3.out.close T HB.out _⟩
  | false =>
   have hb1 : 1 < b - a := by
    rcases Nat.lt_or_ge 1 (b - a) with h | h
    ·
     exact h
    ·
     have := T.one s a b h; rw [HG.out] at this; cases this
   have hhl := half_lt hb1
   have hhp := half_pos (b - a)
   obtain ⟨m, hm⟩ : ∃ m, m = a + half (b - a) := ⟨_, rfl⟩
   obtain ⟨s3, D1, hr1⟩ : ∃ s3 D1, rowG node G s2 a m = (D1, s3) := ⟨_, _, rfl⟩
   obtain ⟨s4, D2, hr2⟩ : ∃ s4 D2, rowG node G s3 m b = (D2, s4) := ⟨_, _, rfl⟩
   obtain ⟨R, hR⟩ : ∃ R, R = node D1 D2 := ⟨_, rfl⟩
   have hlen : ∀ s a b, (rowG node G s a b).1.length = 16 := row_len T
   have HD1l := Lh (show D1.length = 16 by have := hlen s2 a m; rw [hr1] at this; exact this)
   have HD2l := Lh (show D2.length = 16 by have := hlen s3 m b; rw [hr2] at this; exact this)
   have HRR := Lh (show rowG node G s a b = (R, s4) by rw [rowG_split node HG.out hb1, ← hm, hr1, hr2, hR])
   have HR := Lh (show R = dof 4 [bs D1, bs D2] from hR)
   have HRl := Lh (show R.length = 16 by rw [hR]; exact dof_len _ _)
   have HI2 := Lh (inp_2 4 (bs D1) (bs D2) (by rw [bs_size, HD1l.out]; omega) (by rw [bs_size, HD2l.out]; omega))
   have hma : a < m := by omega
   have hmb : m < b := by omega
   have HP2 := Lh (show P s2 a by have := T.same s a b HP.out hab (by rw [HG.out]); rw [HG.out] at this; exact this)
   have HP3 := Lh (show P s3 m by have := row_pos T s2 a m hma HP2.out; rw [hr1] at this; exact this)
   have HC1 : Hid (∀ oo W, Inv s2 oo W → W.cell? ⟨gg, 0, none⟩ = some (.func (.func K) #[] caps) → W.cell? ⟨gr, 0, none⟩ = some (.func (.func 103) #[] #[.pointer (some ⟨gg, 0, none⟩), .pointer (some ⟨gr, 0, none⟩)]) → ¬ oo gg → ¬ oo gr → Calls Tryd.prog 103 #[.int .i64 (a : Int), .int .i64 (m : Int), .pointer (some ⟨gg, 0, none⟩), .pointer (some ⟨gr, 0, none⟩)] W fun e W' => e = .returned (.agg (B8 D1).toArray) ∧ ∃ O', Inv s3 O' W' ∧ Fr oo O' W W') := Lh (fun oo W h1 h2 h3 h4 h5 => by
    have := HIH.out a m s2 oo W gg gr (by omega) hma (by omega) h1 HP2.out h2 h3 h4 h5
    rw [hr1] at this; exact this)
   have HC2 : Hid (∀ oo W, Inv s3 oo W → W.cell? ⟨gg, 0, none⟩ = some (.func (.func K) #[] caps) → W.cell? ⟨gr, 0, none⟩ = some (.func (.func 103) #[] #[.pointer (some ⟨gg, 0, none⟩), .pointer (some ⟨gr, 0, none⟩)]) → ¬ oo gg → ¬ oo gr → Calls Tryd.prog 103 #[.int .i64 (m : Int), .int .i64 (b : Int), .pointer (some ⟨gg, 0, none⟩), .pointer (some ⟨gr, 0, none⟩)] W fun e W' => e = .returned (.agg (B8 D2).toArray) ∧ ∃ O', Inv s4 O' W' ∧ Fr oo O' W W') := Lh (fun oo W h1 h2 h3 h4 h5 => by
    have := HIH.out m b s3 oo W gg gr (by omega) hmb hbN h1 HP3.out h2 h3 h4 h5
    rw [hr2] at this; exact this)
   have HCV : Hid (∀ (W : World) (g : Nat) (D : List UInt8), D.length = 16 → Blk W g 29 (B8 D) → (convert 39 9 (.slice (some ⟨g, 0, none⟩) 16 16)).run Tryd.prog W = .ok (.string (bs D)) W) := Lh (fun W g D hD h => by
    have := conv_at g 0 16 D W (fun j u hu => by rw [Nat.zero_add, h.cell]; exact hu)
    rw [hD] at this; exact this)
   obtain ⟨q, hq⟩ : ∃ q, q = half (b - a) := ⟨_, rfl⟩
   have HPW := Lh (fun W => power_any (b - a) W hb1 (by omega))
   rw [← hq] at HPW hm hhl hhp
   have hd1 : ((b - a : Nat) : Int) = (b : Int) - (a : Int) := by omega
   have HD1 := Lh hd1
   have HS := Lh (show (a : Int) + (q : Int) = (m : Int) by omega)
   have hq1 : (q : Int) ≤ 1073741824 := by omega
   have ha1 : (a : Int) ≤ 1073741824 := by omega
   have hbb : (b : Int) ≤ 1073741824 := by omega
   have HMM := Lh (And.intro hma hmb)
   clear hm hr1 hr2 hR hlen hd1 hhl hhp HC HIH hq hba hma hmb
   go_wp2_with (first
    | (with_reducible refine wpList_store_row rfl 29 (.tmp 7) (.tmp 17) rfl w2.heap.size (B8 D).toArray rfl rfl 29 _ (heap_alloc_new w2 _) (size29' _ HDl.out) (Z16_size _ HDl.out) (one8 _) ?_; rw [← HW3.out])
    | (go_at_call 104; rw [← HD1.out]; refine (HPW.out _).mono ?_; rintro e wx ⟨rfl, rfl⟩))
   rw [HS.out]
   go_cut [10, 11] (fun s10 s11 wx => ∃ gl gq : Nat, s10 = .pointer (some ⟨gl, 0, none⟩) ∧ s11 = .pointer (some ⟨gq, 0, none⟩) ∧ Hid (E5 Inv O w s4 D1 D2 gl gq wx))
   case first =>
    refine wp_region_held (S := fun W => W.cell? ⟨gr, 0, none⟩ = some (.func (.func 103) #[] #[.pointer (some ⟨gg, 0, none⟩), .pointer (some ⟨gr, 0, none⟩)])) (by kernel_rfl) ?_
    change wpAnyH _ _ _ _ _ _ _ _ (World.drew W3)
    have k0 := Lh (k3.out.drew T)
    have hs0 := k0.out.cell HGR.out.1 HGR.out.2
    generalize World.drew W3 = Wd at k0 hs0 ⊢
    refine tkH 0 ({ dst := some 27, op := Op.load 155 (Operand.tmp 3), type := 155, pos := "merkle.go:158", after := #[], guard := none }) ((.func (.func 103) #[] #[.pointer (some ⟨gg, 0, none⟩), .pointer (some ⟨gr, 0, none⟩)])) hs0 (fun W hW => by have hcl : W.cell? ⟨gr, 0, none⟩ = some (.func (.func 103) #[] #[.pointer (some ⟨gg, 0, none⟩), .pointer (some ⟨gr, 0, none⟩)]) := hW; go_simp) ?_
    try simp only [zp, zn, z1, z2, z3]
    refine tkH 1 ({ dst := some 28, op := Op.move (Operand.tmp 0), type := 3, pos := "merkle.go:158", after := #[], guard := none }) (.int .i64 (a : Int)) hs0 (fun W hW => ?y1) ?_
    case y1 => go_simp
    try simp only [zp, zn, z1, z2, z3]
    refine tkH 2 ({ dst := some 29, op := Op.move (Operand.tmp 9), type := 3, pos := "merkle.go:158", after := #[], guard := none }) (.int .i64 (m : Int)) hs0 (fun W hW => ?y2) ?_
    case y2 => go_simp
    try simp only [zp, zn, z1, z2, z3]
    refine tkH 4 ({ dst := some 31, op := Op.load 155 (Operand.tmp 3), type := 155, pos := "merkle.go:158", after := #[], guard := none }) ((.func (.func 103) #[] #[.pointer (some ⟨gg, 0, none⟩), .pointer (some ⟨gr, 0, none⟩)])) hs0 (fun W hW => by have hcl : W.cell? ⟨gr, 0, none⟩ = some (.func (.func 103) #[] #[.pointer (some ⟨gg, 0, none⟩), .pointer (some ⟨gr, 0, none⟩)]) := hW; go_simp) ?_
    try simp only [zp, zn, z1, z2, z3]
    refine tkH 5 ({ dst := some 32, op := Op.move (Operand.tmp 9), type := 3, pos := "merkle.go:158", after := #[], guard := none }) (.int .i64 (m : Int)) hs0 (fun W hW => ?y5) ?_
    case y5 => go_simp
    try simp only [zp, zn, z1, z2, z3]
    refine tkH 6 ({ dst := some 33, op := Op.move (Operand.tmp 1), type := 3, pos := "merkle.go:158", after := #[], guard := none }) (.int .i64 (b : Int)) hs0 (fun W hW => ?y6) ?_
    case y6 => go_simp
    try simp only [zp, zn, z1, z2, z3]
    refine wpAnyH_ready (rs := [3, 8, 9]) (by kernel_rfl) (by simp) ?_
    refine AllReadyH.cons (o := kRows2_0) rfl (fun K hK => ?_) (AllReadyH.cons (o := kRows2_1) rfl (fun K hK => ?_) (AllReadyH.cons (o := kRows2_2) rfl (fun K hK => ?_) AllReadyH.nil))
    ·
     rw [if_pos (by rfl)]
     obtain ⟨oo, hi, hh, hn⟩ := k0.out.call HGG.out.1 HGG.out.2 HGR.out.1 HGR.out.2
     have HN := Lh hn
     have HH := Lh hh
     have HI := Lh hi
     clear hn hh hi
     go_simp
     refine (HC1.out oo _ HI.out HH.out.1 HH.out.2.2.1 HH.out.2.1 HH.out.2.2.2).mono ?_; rintro e w3 ⟨rfl, ox, hix, hfx⟩
     have k1 := Lh (HN.out _ _ _ hix hfx)
     clear hix hfx HN HH HI
     have hs2 := k1.out.cell HGR.out.1 HGR.out.2
     go_wp2_with fail
     refine hK.out _ _ hs2 (fun _ => ?_)
     clear hK K
     try simp only [zp, zn, z1, z2, z3]
     refine wpAnyH_ready (rs := [7, 8, 9]) (by kernel_rfl) (by simp) ?_
     refine AllReadyH.cons (o := kRows2_3) rfl (fun K hK => ?_) (AllReadyH.cons (o := kRows2_1) rfl (fun K hK => ?_) (AllReadyH.cons (o := kRows2_2) rfl (fun K hK => ?_) AllReadyH.nil))
     ·
      rw [if_pos (by rfl)]
      obtain ⟨oo, hi, hh, hn⟩ := k1.out.call HGG.out.1 HGG.out.2 HGR.out.1 HGR.out.2
      have HN := Lh hn
      have HH := Lh hh
      have HI := Lh hi
      clear hn hh hi
      go_simp
      refine (HC2.out oo _ HI.out HH.out.1 HH.out.2.2.1 HH.out.2.1 HH.out.2.2.2).mono ?_; rintro e w6 ⟨rfl, ox, hix, hfx⟩
      have k4 := Lh (HN.out _ _ _ hix hfx)
      clear hix hfx HN HH HI
      have hs5 := k4.out.cell HGR.out.1 HGR.out.2
      go_wp2_with fail
      refine hK.out _ _ hs5 (fun _ => ?_)
      clear hK K
      try simp only [zp, zn, z1, z2, z3]
      refine wpAnyH_ready (rs := [8, 9]) (by kernel_rfl) (by simp) ?_
      refine AllReadyH.cons (o := kRows2_1) rfl (fun K hK => ?_) (AllReadyH.cons (o := kRows2_2) rfl (fun K hK => ?_) AllReadyH.nil)
      ·
       rw [if_pos (by rfl)]
       have k7 := Lh (k4.out.left T HB.out)
       have hs8 := k7.out.cell HGR.out.1 HGR.out.2
       go_simp
       refine hK.out _ _ hs8 (fun _ => ?_)
       clear hK K
       generalize w6.alloc (.cells Z16.toArray 29) = w9 at k7 hs8 ⊢
       try simp only [zp, zn, z1, z2, z3]
       refine wpAnyH_ready (rs := [9]) (by kernel_rfl) (by simp) ?_
       refine AllReadyH.cons (o := kRows2_2) rfl (fun K hK => ?_) AllReadyH.nil
       rw [if_pos (by rfl)]
       have k10 := Lh (k7.out.right T HB.out)
       have hs11 := k10.out.cell HGR.out.1 HGR.out.2
       go_simp
       refine hK.out _ _ hs11 (fun _ => ?_)
       clear hK K
       generalize w9.alloc (.cells Z16.toArray 29) = w12 at k10 hs11 ⊢
       try simp only [zp, zn, z1, z2, z3]
       obtain ⟨f1, f2⟩ := k10.out.rows (B8 D1).toArray
       have F2 := Lh f2
       clear f2
       refine wpAnyH_ready (rs := [10]) (by kernel_rfl) (by simp) ?_
       refine AllReadyH.cons (o := kRows2_4) rfl (fun K hK => ?_) AllReadyH.nil
       rw [if_pos (by rfl)]
       refine wp_store_row 29 (.tmp 10) (.tmp 30) rfl (w6.heap.size) (B8 D1).toArray rfl rfl 29 _ f1 (size29' _ HD1l.out) (Z16_size _ HD1l.out) (one8 _) ?_
       refine hK.out _ _ (keep_row (g := w6.heap.size) k10.out HGR.out.1 HGR.out.2) (fun _ => ?_)
       clear hK K
       try simp only [zp, zn, z1, z2, z3]
       refine wpAnyH_ready (rs := [11]) (by kernel_rfl) (by simp) ?_
       refine AllReadyH.cons (o := kRows2_5) rfl (fun K hK => ?_) AllReadyH.nil
       rw [if_pos (by rfl)]
       refine wp_store_row 29 (.tmp 11) (.tmp 34) rfl (w9.heap.size) (B8 D2).toArray rfl rfl 29 _ F2.out (size29' _ HD2l.out) (Z16_size _ HD2l.out) (one8 _) ?_
       have KE := Lh (k10.out.fill T D1 D2)
       refine hK.out _ _ (E5.cell KE.out HGR.out.1 HGR.out.2) (fun _ => ?_)
       clear hK K
       try simp only [zp, zn, z1, z2, z3]
       refine wpAnyH_done (by kernel_rfl) ?_ _
       try simp only [zp, zn, z1, z2, z3]
       go_wp2_with fail
       go_meet
       exact ⟨w6.heap.size, w9.heap.size, rfl, rfl, KE⟩
      ·
       rw [if_pos (by rfl)]
       have k13 := Lh (k4.out.right T HB.out)
       have hs14 := k13.out.cell HGR.out.1 HGR.out.2
       go_simp
       refine hK.out _ _ hs14 (fun _ => ?_)
       clear hK K
       generalize w6.alloc (.cells Z16.toArray 29) = w15 at k13 hs14 ⊢
       try simp only [zp, zn, z1, z2, z3]
       refine wpAnyH_ready (rs := [8]) (by kernel_rfl) (by simp) ?_
       refine AllReadyH.cons (o := kRows2_1) rfl (fun K hK => ?_) AllReadyH.nil
       rw [if_pos (by rfl)]
       have k16 := Lh (k13.out.left T HB.out)
       have hs17 := k16.out.cell HGR.out.1 HGR.out.2
       go_simp
       refine hK.out _ _ hs17 (fun _ => ?_)
       clear hK K
       generalize w15.alloc (.cells Z16.toArray 29) = w18 at k16 hs17 ⊢
       try simp only [zp, zn, z1, z2, z3]
       obtain ⟨f1, f2⟩ := k16.out.rows (B8 D1).toArray
       have F2 := Lh f2
       clear f2
       refine wpAnyH_ready (rs := [10]) (by kernel_rfl) (by simp) ?_
       refine AllReadyH.cons (o := kRows2_4) rfl (fun K hK => ?_) AllReadyH.nil
       rw [if_pos (by rfl)]
       refine wp_store_row 29 (.tmp 10) (.tmp 30) rfl (w15.heap.size) (B8 D1).toArray rfl rfl 29 _ f1 (size29' _ HD1l.out) (Z16_size _ HD1l.out) (one8 _) ?_
       refine hK.out _ _ (keep_row (g := w15.heap.size) k16.out HGR.out.1 HGR.out.2) (fun _ => ?_)
       clear hK K
       try simp only [zp, zn, z1, z2, z3]
       refine wpAnyH_ready (rs := [11]) (by kernel_rfl) (by simp) ?_
       refine AllReadyH.cons (o := kRows2_5) rfl (fun K hK => ?_) AllReadyH.nil
       rw [if_pos (by rfl)]
       refine wp_store_row 29 (.tmp 11) (.tmp 34) rfl (w6.heap.size) (B8 D2).toArray rfl rfl 29 _ F2.out (size29' _ HD2l.out) (Z16_size _ HD2l.out) (one8 _) ?_
       have KE := Lh (k16.out.fill T D1 D2)
       refine hK.out _ _ (E5.cell KE.out HGR.out.1 HGR.out.2) (fun _ => ?_)
       clear hK K
       try simp only [zp, zn, z1, z2, z3]
       refine wpAnyH_done (by kernel_rfl) ?_ _
       try simp only [zp, zn, z1, z2, z3]
       go_wp2_with fail
       go_meet
       exact ⟨w15.heap.size, w6.heap.size, rfl, rfl, KE⟩
     ·
      rw [if_pos (by rfl)]
      have k19 := Lh (k1.out.left T HB.out)
      have hs20 := k19.out.cell HGR.out.1 HGR.out.2
      go_simp
      refine hK.out _ _ hs20 (fun _ => ?_)
      clear hK K
      generalize w3.alloc (.cells Z16.toArray 29) = w21 at k19 hs20 ⊢
      try simp only [zp, zn, z1, z2, z3]
      refine wpAnyH_ready (rs := [7, 9]) (by kernel_rfl) (by simp) ?_
      refine AllReadyH.cons (o := kRows2_3) rfl (fun K hK => ?_) (AllReadyH.cons (o := kRows2_2) rfl (fun K hK => ?_) AllReadyH.nil)
      ·
       rw [if_pos (by rfl)]
       obtain ⟨oo, hi, hh, hn⟩ := k19.out.call HGG.out.1 HGG.out.2 HGR.out.1 HGR.out.2
       have HN := Lh hn
       have HH := Lh hh
       have HI := Lh hi
       clear hn hh hi
       go_simp
       refine (HC2.out oo _ HI.out HH.out.1 HH.out.2.2.1 HH.out.2.1 HH.out.2.2.2).mono ?_; rintro e w24 ⟨rfl, ox, hix, hfx⟩
       have k22 := Lh (HN.out _ _ _ hix hfx)
       clear hix hfx HN HH HI
       have hs23 := k22.out.cell HGR.out.1 HGR.out.2
       go_wp2_with fail
       refine hK.out _ _ hs23 (fun _ => ?_)
       clear hK K
       try simp only [zp, zn, z1, z2, z3]
       refine wpAnyH_ready (rs := [9]) (by kernel_rfl) (by simp) ?_
       refine AllReadyH.cons (o := kRows2_2) rfl (fun K hK => ?_) AllReadyH.nil
       rw [if_pos (by rfl)]
       have k25 := Lh (k22.out.right T HB.out)
       have hs26 := k25.out.cell HGR.out.1 HGR.out.2
       go_simp
       refine hK.out _ _ hs26 (fun _ => ?_)
       clear hK K
       generalize w24.alloc (.cells Z16.toArray 29) = w27 at k25 hs26 ⊢
       try simp only [zp, zn, z1, z2, z3]
       obtain ⟨f1, f2⟩ := k25.out.rows (B8 D1).toArray
       have F2 := Lh f2
       clear f2
       refine wpAnyH_ready (rs := [10]) (by kernel_rfl) (by simp) ?_
       refine AllReadyH.cons (o := kRows2_4) rfl (fun K hK => ?_) AllReadyH.nil
       rw [if_pos (by rfl)]
       refine wp_store_row 29 (.tmp 10) (.tmp 30) rfl (w3.heap.size) (B8 D1).toArray rfl rfl 29 _ f1 (size29' _ HD1l.out) (Z16_size _ HD1l.out) (one8 _) ?_
       refine hK.out _ _ (keep_row (g := w3.heap.size) k25.out HGR.out.1 HGR.out.2) (fun _ => ?_)
       clear hK K
       try simp only [zp, zn, z1, z2, z3]
       refine wpAnyH_ready (rs := [11]) (by kernel_rfl) (by simp) ?_
       refine AllReadyH.cons (o := kRows2_5) rfl (fun K hK => ?_) AllReadyH.nil
       rw [if_pos (by rfl)]
       refine wp_store_row 29 (.tmp 11) (.tmp 34) rfl (w24.heap.size) (B8 D2).toArray rfl rfl 29 _ F2.out (size29' _ HD2l.out) (Z16_size _ HD2l.out) (one8 _) ?_
       have KE := Lh (k25.out.fill T D1 D2)
       refine hK.out _ _ (E5.cell KE.out HGR.out.1 HGR.out.2) (fun _ => ?_)
       clear hK K
       try simp only [zp, zn, z1, z2, z3]
       refine wpAnyH_done (by kernel_rfl) ?_ _
       try simp only [zp, zn, z1, z2, z3]
       go_wp2_with fail
       go_meet
       exact ⟨w3.heap.size, w24.heap.size, rfl, rfl, KE⟩
      ·
       rw [if_pos (by rfl)]
       have k28 := Lh (k19.out.right T HB.out)
       have hs29 := k28.out.cell HGR.out.1 HGR.out.2
       go_simp
       refine hK.out _ _ hs29 (fun _ => ?_)
       clear hK K
       generalize w21.alloc (.cells Z16.toArray 29) = w30 at k28 hs29 ⊢
       try simp only [zp, zn, z1, z2, z3]
       refine wpAnyH_ready (rs := [7]) (by kernel_rfl) (by simp) ?_
       refine AllReadyH.cons (o := kRows2_3) rfl (fun K hK => ?_) AllReadyH.nil
       rw [if_pos (by rfl)]
       obtain ⟨oo, hi, hh, hn⟩ := k28.out.call HGG.out.1 HGG.out.2 HGR.out.1 HGR.out.2
       have HN := Lh hn
       have HH := Lh hh
       have HI := Lh hi
       clear hn hh hi
       go_simp
       refine (HC2.out oo _ HI.out HH.out.1 HH.out.2.2.1 HH.out.2.1 HH.out.2.2.2).mono ?_; rintro e w33 ⟨rfl, ox, hix, hfx⟩
       have k31 := Lh (HN.out _ _ _ hix hfx)
       clear hix hfx HN HH HI
       have hs32 := k31.out.cell HGR.out.1 HGR.out.2
       go_wp2_with fail
       refine hK.out _ _ hs32 (fun _ => ?_)
       clear hK K
       try simp only [zp, zn, z1, z2, z3]
       obtain ⟨f1, f2⟩ := k31.out.rows (B8 D1).toArray
       have F2 := Lh f2
       clear f2
       refine wpAnyH_ready (rs := [10]) (by kernel_rfl) (by simp) ?_
       refine AllReadyH.cons (o := kRows2_4) rfl (fun K hK => ?_) AllReadyH.nil
       rw [if_pos (by rfl)]
       refine wp_store_row 29 (.tmp 10) (.tmp 30) rfl (w3.heap.size) (B8 D1).toArray rfl rfl 29 _ f1 (size29' _ HD1l.out) (Z16_size _ HD1l.out) (one8 _) ?_
       refine hK.out _ _ (keep_row (g := w3.heap.size) k31.out HGR.out.1 HGR.out.2) (fun _ => ?_)
       clear hK K
       try simp only [zp, zn, z1, z2, z3]
       refine wpAnyH_ready (rs := [11]) (by kernel_rfl) (by simp) ?_
       refine AllReadyH.cons (o := kRows2_5) rfl (fun K hK => ?_) AllReadyH.nil
       rw [if_pos (by rfl)]
       refine wp_store_row 29 (.tmp 11) (.tmp 34) rfl (w21.heap.size) (B8 D2).toArray rfl rfl 29 _ F2.out (size29' _ HD2l.out) (Z16_size _ HD2l.out) (one8 _) ?_
       have KE := Lh (k31.out.fill T D1 D2)
       refine hK.out _ _ (E5.cell KE.out HGR.out.1 HGR.out.2) (fun _ => ?_)
       clear hK K
       try simp only [zp, zn, z1, z2, z3]
       refine wpAnyH_done (by kernel_rfl) ?_ _
       try simp only [zp, zn, z1, z2, z3]
       go_wp2_with fail
       go_meet
       exact ⟨w3.heap.size, w21.heap.size, rfl, rfl, KE⟩
     ·
      rw [if_pos (by rfl)]
      have k34 := Lh (k1.out.right T HB.out)
      have hs35 := k34.out.cell HGR.out.1 HGR.out.2
      go_simp
      refine hK.out _ _ hs35 (fun _ => ?_)
      clear hK K
      generalize w3.alloc (.cells Z16.toArray 29) = w36 at k34 hs35 ⊢
      try simp only [zp, zn, z1, z2, z3]
      refine wpAnyH_ready (rs := [7, 8]) (by kernel_rfl) (by simp) ?_
      refine AllReadyH.cons (o := kRows2_3) rfl (fun K hK => ?_) (AllReadyH.cons (o := kRows2_1) rfl (fun K hK => ?_) AllReadyH.nil)
      ·
       rw [if_pos (by rfl)]
       obtain ⟨oo, hi, hh, hn⟩ := k34.out.call HGG.out.1 HGG.out.2 HGR.out.1 HGR.out.2
       have HN := Lh hn
       have HH := Lh hh
       have HI := Lh hi
       clear hn hh hi
       go_simp
       refine (HC2.out oo _ HI.out HH.out.1 HH.out.2.2.1 HH.out.2.1 HH.out.2.2.2).mono ?_; rintro e w39 ⟨rfl, ox, hix, hfx⟩
       have k37 := Lh (HN.out _ _ _ hix hfx)
       clear hix hfx HN HH HI
       have hs38 := k37.out.cell HGR.out.1 HGR.out.2
       go_wp2_with fail
       refine hK.out _ _ hs38 (fun _ => ?_)
       clear hK K
       try simp only [zp, zn, z1, z2, z3]
       refine wpAnyH_ready (rs := [8]) (by kernel_rfl) (by simp) ?_
       refine AllReadyH.cons (o := kRows2_1) rfl (fun K hK => ?_) AllReadyH.nil
       rw [if_pos (by rfl)]
       have k40 := Lh (k37.out.left T HB.out)
       have hs41 := k40.out.cell HGR.out.1 HGR.out.2
       go_simp
       refine hK.out _ _ hs41 (fun _ => ?_)
       clear hK K
       generalize w39.alloc (.cells Z16.toArray 29) = w42 at k40 hs41 ⊢
       try simp only [zp, zn, z1, z2, z3]
       obtain ⟨f1, f2⟩ := k40.out.rows (B8 D1).toArray
       have F2 := Lh f2
       clear f2
       refine wpAnyH_ready (rs := [10]) (by kernel_rfl) (by simp) ?_
       refine AllReadyH.cons (o := kRows2_4) rfl (fun K hK => ?_) AllReadyH.nil
       rw [if_pos (by rfl)]
       refine wp_store_row 29 (.tmp 10) (.tmp 30) rfl (w39.heap.size) (B8 D1).toArray rfl rfl 29 _ f1 (size29' _ HD1l.out) (Z16_size _ HD1l.out) (one8 _) ?_
       refine hK.out _ _ (keep_row (g := w39.heap.size) k40.out HGR.out.1 HGR.out.2) (fun _ => ?_)
       clear hK K
       try simp only [zp, zn, z1, z2, z3]
       refine wpAnyH_ready (rs := [11]) (by kernel_rfl) (by simp) ?_
       refine AllReadyH.cons (o := kRows2_5) rfl (fun K hK => ?_) AllReadyH.nil
       rw [if_pos (by rfl)]
       refine wp_store_row 29 (.tmp 11) (.tmp 34) rfl (w3.heap.size) (B8 D2).toArray rfl rfl 29 _ F2.out (size29' _ HD2l.out) (Z16_size _ HD2l.out) (one8 _) ?_
       have KE := Lh (k40.out.fill T D1 D2)
       refine hK.out _ _ (E5.cell KE.out HGR.out.1 HGR.out.2) (fun _ => ?_)
       clear hK K
       try simp only [zp, zn, z1, z2, z3]
       refine wpAnyH_done (by kernel_rfl) ?_ _
       try simp only [zp, zn, z1, z2, z3]
       go_wp2_with fail
       go_meet
       exact ⟨w39.heap.size, w3.heap.size, rfl, rfl, KE⟩
      ·
       rw [if_pos (by rfl)]
       have k43 := Lh (k34.out.left T HB.out)
       have hs44 := k43.out.cell HGR.out.1 HGR.out.2
       go_simp
       refine hK.out _ _ hs44 (fun _ => ?_)
       clear hK K
       generalize w36.alloc (.cells Z16.toArray 29) = w45 at k43 hs44 ⊢
       try simp only [zp, zn, z1, z2, z3]
       refine wpAnyH_ready (rs := [7]) (by kernel_rfl) (by simp) ?_
       refine AllReadyH.cons (o := kRows2_3) rfl (fun K hK => ?_) AllReadyH.nil
       rw [if_pos (by rfl)]
       obtain ⟨oo, hi, hh, hn⟩ := k43.out.call HGG.out.1 HGG.out.2 HGR.out.1 HGR.out.2
       have HN := Lh hn
       have HH := Lh hh
       have HI := Lh hi
       clear hn hh hi
       go_simp
       refine (HC2.out oo _ HI.out HH.out.1 HH.out.2.2.1 HH.out.2.1 HH.out.2.2.2).mono ?_; rintro e w48 ⟨rfl, ox, hix, hfx⟩
       have k46 := Lh (HN.out _ _ _ hix hfx)
       clear hix hfx HN HH HI
       have hs47 := k46.out.cell HGR.out.1 HGR.out.2
       go_wp2_with fail
       refine hK.out _ _ hs47 (fun _ => ?_)
       clear hK K
       try simp only [zp, zn, z1, z2, z3]
       obtain ⟨f1, f2⟩ := k46.out.rows (B8 D1).toArray
       have F2 := Lh f2
       clear f2
       refine wpAnyH_ready (rs := [10]) (by kernel_rfl) (by simp) ?_
       refine AllReadyH.cons (o := kRows2_4) rfl (fun K hK => ?_) AllReadyH.nil
       rw [if_pos (by rfl)]
       refine wp_store_row 29 (.tmp 10) (.tmp 30) rfl (w36.heap.size) (B8 D1).toArray rfl rfl 29 _ f1 (size29' _ HD1l.out) (Z16_size _ HD1l.out) (one8 _) ?_
       refine hK.out _ _ (keep_row (g := w36.heap.size) k46.out HGR.out.1 HGR.out.2) (fun _ => ?_)
       clear hK K
       try simp only [zp, zn, z1, z2, z3]
       refine wpAnyH_ready (rs := [11]) (by kernel_rfl) (by simp) ?_
       refine AllReadyH.cons (o := kRows2_5) rfl (fun K hK => ?_) AllReadyH.nil
       rw [if_pos (by rfl)]
       refine wp_store_row 29 (.tmp 11) (.tmp 34) rfl (w3.heap.size) (B8 D2).toArray rfl rfl 29 _ F2.out (size29' _ HD2l.out) (Z16_size _ HD2l.out) (one8 _) ?_
       have KE := Lh (k46.out.fill T D1 D2)
       refine hK.out _ _ (E5.cell KE.out HGR.out.1 HGR.out.2) (fun _ => ?_)
       clear hK K
       try simp only [zp, zn, z1, z2, z3]
       refine wpAnyH_done (by kernel_rfl) ?_ _
       try simp only [zp, zn, z1, z2, z3]
       go_wp2_with fail
       go_meet
       exact ⟨w36.heap.size, w3.heap.size, rfl, rfl, KE⟩
    ·
     rw [if_pos (by rfl)]
     have k49 := Lh (k0.out.left T HB.out)
     have hs50 := k49.out.cell HGR.out.1 HGR.out.2
     go_simp
     refine hK.out _ _ hs50 (fun _ => ?_)
     clear hK K
     generalize Wd.alloc (.cells Z16.toArray 29) = w51 at k49 hs50 ⊢
     try simp only [zp, zn, z1, z2, z3]
     refine wpAnyH_ready (rs := [3, 9]) (by kernel_rfl) (by simp) ?_
     refine AllReadyH.cons (o := kRows2_0) rfl (fun K hK => ?_) (AllReadyH.cons (o := kRows2_2) rfl (fun K hK => ?_) AllReadyH.nil)
     ·
      rw [if_pos (by rfl)]
      obtain ⟨oo, hi, hh, hn⟩ := k49.out.call HGG.out.1 HGG.out.2 HGR.out.1 HGR.out.2
      have HN := Lh hn
      have HH := Lh hh
      have HI := Lh hi
      clear hn hh hi
      go_simp
      refine (HC1.out oo _ HI.out HH.out.1 HH.out.2.2.1 HH.out.2.1 HH.out.2.2.2).mono ?_; rintro e w54 ⟨rfl, ox, hix, hfx⟩
      have k52 := Lh (HN.out _ _ _ hix hfx)
      clear hix hfx HN HH HI
      have hs53 := k52.out.cell HGR.out.1 HGR.out.2
      go_wp2_with fail
      refine hK.out _ _ hs53 (fun _ => ?_)
      clear hK K
      try simp only [zp, zn, z1, z2, z3]
      refine wpAnyH_ready (rs := [7, 9]) (by kernel_rfl) (by simp) ?_
      refine AllReadyH.cons (o := kRows2_3) rfl (fun K hK => ?_) (AllReadyH.cons (o := kRows2_2) rfl (fun K hK => ?_) AllReadyH.nil)
      ·
       rw [if_pos (by rfl)]
       obtain ⟨oo, hi, hh, hn⟩ := k52.out.call HGG.out.1 HGG.out.2 HGR.out.1 HGR.out.2
       have HN := Lh hn
       have HH := Lh hh
       have HI := Lh hi
       clear hn hh hi
       go_simp
       refine (HC2.out oo _ HI.out HH.out.1 HH.out.2.2.1 HH.out.2.1 HH.out.2.2.2).mono ?_; rintro e w57 ⟨rfl, ox, hix, hfx⟩
       have k55 := Lh (HN.out _ _ _ hix hfx)
       clear hix hfx HN HH HI
       have hs56 := k55.out.cell HGR.out.1 HGR.out.2
       go_wp2_with fail
       refine hK.out _ _ hs56 (fun _ => ?_)
       clear hK K
       try simp only [zp, zn, z1, z2, z3]
       refine wpAnyH_ready (rs := [9]) (by kernel_rfl) (by simp) ?_
       refine AllReadyH.cons (o := kRows2_2) rfl (fun K hK => ?_) AllReadyH.nil
       rw [if_pos (by rfl)]
       have k58 := Lh (k55.out.right T HB.out)
       have hs59 := k58.out.cell HGR.out.1 HGR.out.2
       go_simp
       refine hK.out _ _ hs59 (fun _ => ?_)
       clear hK K
       generalize w57.alloc (.cells Z16.toArray 29) = w60 at k58 hs59 ⊢
       try simp only [zp, zn, z1, z2, z3]
       obtain ⟨f1, f2⟩ := k58.out.rows (B8 D1).toArray
       have F2 := Lh f2
       clear f2
       refine wpAnyH_ready (rs := [10]) (by kernel_rfl) (by simp) ?_
       refine AllReadyH.cons (o := kRows2_4) rfl (fun K hK => ?_) AllReadyH.nil
       rw [if_pos (by rfl)]
       refine wp_store_row 29 (.tmp 10) (.tmp 30) rfl (Wd.heap.size) (B8 D1).toArray rfl rfl 29 _ f1 (size29' _ HD1l.out) (Z16_size _ HD1l.out) (one8 _) ?_
       refine hK.out _ _ (keep_row (g := Wd.heap.size) k58.out HGR.out.1 HGR.out.2) (fun _ => ?_)
       clear hK K
       try simp only [zp, zn, z1, z2, z3]
       refine wpAnyH_ready (rs := [11]) (by kernel_rfl) (by simp) ?_
       refine AllReadyH.cons (o := kRows2_5) rfl (fun K hK => ?_) AllReadyH.nil
       rw [if_pos (by rfl)]
       refine wp_store_row 29 (.tmp 11) (.tmp 34) rfl (w57.heap.size) (B8 D2).toArray rfl rfl 29 _ F2.out (size29' _ HD2l.out) (Z16_size _ HD2l.out) (one8 _) ?_
       have KE := Lh (k58.out.fill T D1 D2)
       refine hK.out _ _ (E5.cell KE.out HGR.out.1 HGR.out.2) (fun _ => ?_)
       clear hK K
       try simp only [zp, zn, z1, z2, z3]
       refine wpAnyH_done (by kernel_rfl) ?_ _
       try simp only [zp, zn, z1, z2, z3]
       go_wp2_with fail
       go_meet
       exact ⟨Wd.heap.size, w57.heap.size, rfl, rfl, KE⟩
      ·
       rw [if_pos (by rfl)]
       have k61 := Lh (k52.out.right T HB.out)
       have hs62 := k61.out.cell HGR.out.1 HGR.out.2
       go_simp
       refine hK.out _ _ hs62 (fun _ => ?_)
       clear hK K
       generalize w54.alloc (.cells Z16.toArray 29) = w63 at k61 hs62 ⊢
       try simp only [zp, zn, z1, z2, z3]
       refine wpAnyH_ready (rs := [7]) (by kernel_rfl) (by simp) ?_
       refine AllReadyH.cons (o := kRows2_3) rfl (fun K hK => ?_) AllReadyH.nil
       rw [if_pos (by rfl)]
       obtain ⟨oo, hi, hh, hn⟩ := k61.out.call HGG.out.1 HGG.out.2 HGR.out.1 HGR.out.2
       have HN := Lh hn
       have HH := Lh hh
       have HI := Lh hi
       clear hn hh hi
       go_simp
       refine (HC2.out oo _ HI.out HH.out.1 HH.out.2.2.1 HH.out.2.1 HH.out.2.2.2).mono ?_; rintro e w66 ⟨rfl, ox, hix, hfx⟩
       have k64 := Lh (HN.out _ _ _ hix hfx)
       clear hix hfx HN HH HI
       have hs65 := k64.out.cell HGR.out.1 HGR.out.2
       go_wp2_with fail
       refine hK.out _ _ hs65 (fun _ => ?_)
       clear hK K
       try simp only [zp, zn, z1, z2, z3]
       obtain ⟨f1, f2⟩ := k64.out.rows (B8 D1).toArray
       have F2 := Lh f2
       clear f2
       refine wpAnyH_ready (rs := [10]) (by kernel_rfl) (by simp) ?_
       refine AllReadyH.cons (o := kRows2_4) rfl (fun K hK => ?_) AllReadyH.nil
       rw [if_pos (by rfl)]
       refine wp_store_row 29 (.tmp 10) (.tmp 30) rfl (Wd.heap.size) (B8 D1).toArray rfl rfl 29 _ f1 (size29' _ HD1l.out) (Z16_size _ HD1l.out) (one8 _) ?_
       refine hK.out _ _ (keep_row (g := Wd.heap.size) k64.out HGR.out.1 HGR.out.2) (fun _ => ?_)
       clear hK K
       try simp only [zp, zn, z1, z2, z3]
       refine wpAnyH_ready (rs := [11]) (by kernel_rfl) (by simp) ?_
       refine AllReadyH.cons (o := kRows2_5) rfl (fun K hK => ?_) AllReadyH.nil
       rw [if_pos (by rfl)]
       refine wp_store_row 29 (.tmp 11) (.tmp 34) rfl (w54.heap.size) (B8 D2).toArray rfl rfl 29 _ F2.out (size29' _ HD2l.out) (Z16_size _ HD2l.out) (one8 _) ?_
       have KE := Lh (k64.out.fill T D1 D2)
       refine hK.out _ _ (E5.cell KE.out HGR.out.1 HGR.out.2) (fun _ => ?_)
       clear hK K
       try simp only [zp, zn, z1, z2, z3]
       refine wpAnyH_done (by kernel_rfl) ?_ _
       try simp only [zp, zn, z1, z2, z3]
       go_wp2_with fail
       go_meet
       exact ⟨Wd.heap.size, w54.heap.size, rfl, rfl, KE⟩
     ·
      rw [if_pos (by rfl)]
      have k67 := Lh (k49.out.right T HB.out)
      have hs68 := k67.out.cell HGR.out.1 HGR.out.2
      go_simp
      refine hK.out _ _ hs68 (fun _ => ?_)
      clear hK K
      generalize w51.alloc (.cells Z16.toArray 29) = w69 at k67 hs68 ⊢
      try simp only [zp, zn, z1, z2, z3]
      refine wpAnyH_ready (rs := [3]) (by kernel_rfl) (by simp) ?_
      refine AllReadyH.cons (o := kRows2_0) rfl (fun K hK => ?_) AllReadyH.nil
      rw [if_pos (by rfl)]
      obtain ⟨oo, hi, hh, hn⟩ := k67.out.call HGG.out.1 HGG.out.2 HGR.out.1 HGR.out.2
      have HN := Lh hn
      have HH := Lh hh
      have HI := Lh hi
      clear hn hh hi
      go_simp
      refine (HC1.out oo _ HI.out HH.out.1 HH.out.2.2.1 HH.out.2.1 HH.out.2.2.2).mono ?_; rintro e w72 ⟨rfl, ox, hix, hfx⟩
      have k70 := Lh (HN.out _ _ _ hix hfx)
      clear hix hfx HN HH HI
      have hs71 := k70.out.cell HGR.out.1 HGR.out.2
      go_wp2_with fail
      refine hK.out _ _ hs71 (fun _ => ?_)
      clear hK K
      try simp only [zp, zn, z1, z2, z3]
      refine wpAnyH_ready (rs := [7]) (by kernel_rfl) (by simp) ?_
      refine AllReadyH.cons (o := kRows2_3) rfl (fun K hK => ?_) AllReadyH.nil
      rw [if_pos (by rfl)]
      obtain ⟨oo, hi, hh, hn⟩ := k70.out.call HGG.out.1 HGG.out.2 HGR.out.1 HGR.out.2
      have HN := Lh hn
      have HH := Lh hh
      have HI := Lh hi
      clear hn hh hi
      go_simp
      refine (HC2.out oo _ HI.out HH.out.1 HH.out.2.2.1 HH.out.2.1 HH.out.2.2.2).mono ?_; rintro e w75 ⟨rfl, ox, hix, hfx⟩
      have k73 := Lh (HN.out _ _ _ hix hfx)
      clear hix hfx HN HH HI
      have hs74 := k73.out.cell HGR.out.1 HGR.out.2
      go_wp2_with fail
      refine hK.out _ _ hs74 (fun _ => ?_)
      clear hK K
      try simp only [zp, zn, z1, z2, z3]
      obtain ⟨f1, f2⟩ := k73.out.rows (B8 D1).toArray
      have F2 := Lh f2
      clear f2
      refine wpAnyH_ready (rs := [10]) (by kernel_rfl) (by simp) ?_
      refine AllReadyH.cons (o := kRows2_4) rfl (fun K hK => ?_) AllReadyH.nil
      rw [if_pos (by rfl)]
      refine wp_store_row 29 (.tmp 10) (.tmp 30) rfl (Wd.heap.size) (B8 D1).toArray rfl rfl 29 _ f1 (size29' _ HD1l.out) (Z16_size _ HD1l.out) (one8 _) ?_
      refine hK.out _ _ (keep_row (g := Wd.heap.size) k73.out HGR.out.1 HGR.out.2) (fun _ => ?_)
      clear hK K
      try simp only [zp, zn, z1, z2, z3]
      refine wpAnyH_ready (rs := [11]) (by kernel_rfl) (by simp) ?_
      refine AllReadyH.cons (o := kRows2_5) rfl (fun K hK => ?_) AllReadyH.nil
      rw [if_pos (by rfl)]
      refine wp_store_row 29 (.tmp 11) (.tmp 34) rfl (w51.heap.size) (B8 D2).toArray rfl rfl 29 _ F2.out (size29' _ HD2l.out) (Z16_size _ HD2l.out) (one8 _) ?_
      have KE := Lh (k73.out.fill T D1 D2)
      refine hK.out _ _ (E5.cell KE.out HGR.out.1 HGR.out.2) (fun _ => ?_)
      clear hK K
      try simp only [zp, zn, z1, z2, z3]
      refine wpAnyH_done (by kernel_rfl) ?_ _
      try simp only [zp, zn, z1, z2, z3]
      go_wp2_with fail
      go_meet
      exact ⟨Wd.heap.size, w51.heap.size, rfl, rfl, KE⟩
    ·
     rw [if_pos (by rfl)]
     have k76 := Lh (k0.out.right T HB.out)
     have hs77 := k76.out.cell HGR.out.1 HGR.out.2
     go_simp
     refine hK.out _ _ hs77 (fun _ => ?_)
     clear hK K
     generalize Wd.alloc (.cells Z16.toArray 29) = w78 at k76 hs77 ⊢
     try simp only [zp, zn, z1, z2, z3]
     refine wpAnyH_ready (rs := [3, 8]) (by kernel_rfl) (by simp) ?_
     refine AllReadyH.cons (o := kRows2_0) rfl (fun K hK => ?_) (AllReadyH.cons (o := kRows2_1) rfl (fun K hK => ?_) AllReadyH.nil)
     ·
      rw [if_pos (by rfl)]
      obtain ⟨oo, hi, hh, hn⟩ := k76.out.call HGG.out.1 HGG.out.2 HGR.out.1 HGR.out.2
      have HN := Lh hn
      have HH := Lh hh
      have HI := Lh hi
      clear hn hh hi
      go_simp
      refine (HC1.out oo _ HI.out HH.out.1 HH.out.2.2.1 HH.out.2.1 HH.out.2.2.2).mono ?_; rintro e w81 ⟨rfl, ox, hix, hfx⟩
      have k79 := Lh (HN.out _ _ _ hix hfx)
      clear hix hfx HN HH HI
      have hs80 := k79.out.cell HGR.out.1 HGR.out.2
      go_wp2_with fail
      refine hK.out _ _ hs80 (fun _ => ?_)
      clear hK K
      try simp only [zp, zn, z1, z2, z3]
      refine wpAnyH_ready (rs := [7, 8]) (by kernel_rfl) (by simp) ?_
      refine AllReadyH.cons (o := kRows2_3) rfl (fun K hK => ?_) (AllReadyH.cons (o := kRows2_1) rfl (fun K hK => ?_) AllReadyH.nil)
      ·
       rw [if_pos (by rfl)]
       obtain ⟨oo, hi, hh, hn⟩ := k79.out.call HGG.out.1 HGG.out.2 HGR.out.1 HGR.out.2
       have HN := Lh hn
       have HH := Lh hh
       have HI := Lh hi
       clear hn hh hi
       go_simp
       refine (HC2.out oo _ HI.out HH.out.1 HH.out.2.2.1 HH.out.2.1 HH.out.2.2.2).mono ?_; rintro e w84 ⟨rfl, ox, hix, hfx⟩
       have k82 := Lh (HN.out _ _ _ hix hfx)
       clear hix hfx HN HH HI
       have hs83 := k82.out.cell HGR.out.1 HGR.out.2
       go_wp2_with fail
       refine hK.out _ _ hs83 (fun _ => ?_)
       clear hK K
       try simp only [zp, zn, z1, z2, z3]
       refine wpAnyH_ready (rs := [8]) (by kernel_rfl) (by simp) ?_
       refine AllReadyH.cons (o := kRows2_1) rfl (fun K hK => ?_) AllReadyH.nil
       rw [if_pos (by rfl)]
       have k85 := Lh (k82.out.left T HB.out)
       have hs86 := k85.out.cell HGR.out.1 HGR.out.2
       go_simp
       refine hK.out _ _ hs86 (fun _ => ?_)
       clear hK K
       generalize w84.alloc (.cells Z16.toArray 29) = w87 at k85 hs86 ⊢
       try simp only [zp, zn, z1, z2, z3]
       obtain ⟨f1, f2⟩ := k85.out.rows (B8 D1).toArray
       have F2 := Lh f2
       clear f2
       refine wpAnyH_ready (rs := [10]) (by kernel_rfl) (by simp) ?_
       refine AllReadyH.cons (o := kRows2_4) rfl (fun K hK => ?_) AllReadyH.nil
       rw [if_pos (by rfl)]
       refine wp_store_row 29 (.tmp 10) (.tmp 30) rfl (w84.heap.size) (B8 D1).toArray rfl rfl 29 _ f1 (size29' _ HD1l.out) (Z16_size _ HD1l.out) (one8 _) ?_
       refine hK.out _ _ (keep_row (g := w84.heap.size) k85.out HGR.out.1 HGR.out.2) (fun _ => ?_)
       clear hK K
       try simp only [zp, zn, z1, z2, z3]
       refine wpAnyH_ready (rs := [11]) (by kernel_rfl) (by simp) ?_
       refine AllReadyH.cons (o := kRows2_5) rfl (fun K hK => ?_) AllReadyH.nil
       rw [if_pos (by rfl)]
       refine wp_store_row 29 (.tmp 11) (.tmp 34) rfl (Wd.heap.size) (B8 D2).toArray rfl rfl 29 _ F2.out (size29' _ HD2l.out) (Z16_size _ HD2l.out) (one8 _) ?_
       have KE := Lh (k85.out.fill T D1 D2)
       refine hK.out _ _ (E5.cell KE.out HGR.out.1 HGR.out.2) (fun _ => ?_)
       clear hK K
       try simp only [zp, zn, z1, z2, z3]
       refine wpAnyH_done (by kernel_rfl) ?_ _
       try simp only [zp, zn, z1, z2, z3]
       go_wp2_with fail
       go_meet
       exact ⟨w84.heap.size, Wd.heap.size, rfl, rfl, KE⟩
      ·
       rw [if_pos (by rfl)]
       have k88 := Lh (k79.out.left T HB.out)
       have hs89 := k88.out.cell HGR.out.1 HGR.out.2
       go_simp
       refine hK.out _ _ hs89 (fun _ => ?_)
       clear hK K
       generalize w81.alloc (.cells Z16.toArray 29) = w90 at k88 hs89 ⊢
       try simp only [zp, zn, z1, z2, z3]
       refine wpAnyH_ready (rs := [7]) (by kernel_rfl) (by simp) ?_
       refine AllReadyH.cons (o := kRows2_3) rfl (fun K hK => ?_) AllReadyH.nil
       rw [if_pos (by rfl)]
       obtain ⟨oo, hi, hh, hn⟩ := k88.out.call HGG.out.1 HGG.out.2 HGR.out.1 HGR.out.2
       have HN := Lh hn
       have HH := Lh hh
       have HI := Lh hi
       clear hn hh hi
       go_simp
       refine (HC2.out oo _ HI.out HH.out.1 HH.out.2.2.1 HH.out.2.1 HH.out.2.2.2).mono ?_; rintro e w93 ⟨rfl, ox, hix, hfx⟩
       have k91 := Lh (HN.out _ _ _ hix hfx)
       clear hix hfx HN HH HI
       have hs92 := k91.out.cell HGR.out.1 HGR.out.2
       go_wp2_with fail
       refine hK.out _ _ hs92 (fun _ => ?_)
       clear hK K
       try simp only [zp, zn, z1, z2, z3]
       obtain ⟨f1, f2⟩ := k91.out.rows (B8 D1).toArray
       have F2 := Lh f2
       clear f2
       refine wpAnyH_ready (rs := [10]) (by kernel_rfl) (by simp) ?_
       refine AllReadyH.cons (o := kRows2_4) rfl (fun K hK => ?_) AllReadyH.nil
       rw [if_pos (by rfl)]
       refine wp_store_row 29 (.tmp 10) (.tmp 30) rfl (w81.heap.size) (B8 D1).toArray rfl rfl 29 _ f1 (size29' _ HD1l.out) (Z16_size _ HD1l.out) (one8 _) ?_
       refine hK.out _ _ (keep_row (g := w81.heap.size) k91.out HGR.out.1 HGR.out.2) (fun _ => ?_)
       clear hK K
       try simp only [zp, zn, z1, z2, z3]
       refine wpAnyH_ready (rs := [11]) (by kernel_rfl) (by simp) ?_
       refine AllReadyH.cons (o := kRows2_5) rfl (fun K hK => ?_) AllReadyH.nil
       rw [if_pos (by rfl)]
       refine wp_store_row 29 (.tmp 11) (.tmp 34) rfl (Wd.heap.size) (B8 D2).toArray rfl rfl 29 _ F2.out (size29' _ HD2l.out) (Z16_size _ HD2l.out) (one8 _) ?_
       have KE := Lh (k91.out.fill T D1 D2)
       refine hK.out _ _ (E5.cell KE.out HGR.out.1 HGR.out.2) (fun _ => ?_)
       clear hK K
       try simp only [zp, zn, z1, z2, z3]
       refine wpAnyH_done (by kernel_rfl) ?_ _
       try simp only [zp, zn, z1, z2, z3]
       go_wp2_with fail
       go_meet
       exact ⟨w81.heap.size, Wd.heap.size, rfl, rfl, KE⟩
     ·
      rw [if_pos (by rfl)]
      have k94 := Lh (k76.out.left T HB.out)
      have hs95 := k94.out.cell HGR.out.1 HGR.out.2
      go_simp
      refine hK.out _ _ hs95 (fun _ => ?_)
      clear hK K
      generalize w78.alloc (.cells Z16.toArray 29) = w96 at k94 hs95 ⊢
      try simp only [zp, zn, z1, z2, z3]
      refine wpAnyH_ready (rs := [3]) (by kernel_rfl) (by simp) ?_
      refine AllReadyH.cons (o := kRows2_0) rfl (fun K hK => ?_) AllReadyH.nil
      rw [if_pos (by rfl)]
      obtain ⟨oo, hi, hh, hn⟩ := k94.out.call HGG.out.1 HGG.out.2 HGR.out.1 HGR.out.2
      have HN := Lh hn
      have HH := Lh hh
      have HI := Lh hi
      clear hn hh hi
      go_simp
      refine (HC1.out oo _ HI.out HH.out.1 HH.out.2.2.1 HH.out.2.1 HH.out.2.2.2).mono ?_; rintro e w99 ⟨rfl, ox, hix, hfx⟩
      have k97 := Lh (HN.out _ _ _ hix hfx)
      clear hix hfx HN HH HI
      have hs98 := k97.out.cell HGR.out.1 HGR.out.2
      go_wp2_with fail
      refine hK.out _ _ hs98 (fun _ => ?_)
      clear hK K
      try simp only [zp, zn, z1, z2, z3]
      refine wpAnyH_ready (rs := [7]) (by kernel_rfl) (by simp) ?_
      refine AllReadyH.cons (o := kRows2_3) rfl (fun K hK => ?_) AllReadyH.nil
      rw [if_pos (by rfl)]
      obtain ⟨oo, hi, hh, hn⟩ := k97.out.call HGG.out.1 HGG.out.2 HGR.out.1 HGR.out.2
      have HN := Lh hn
      have HH := Lh hh
      have HI := Lh hi
      clear hn hh hi
      go_simp
      refine (HC2.out oo _ HI.out HH.out.1 HH.out.2.2.1 HH.out.2.1 HH.out.2.2.2).mono ?_; rintro e w102 ⟨rfl, ox, hix, hfx⟩
      have k100 := Lh (HN.out _ _ _ hix hfx)
      clear hix hfx HN HH HI
      have hs101 := k100.out.cell HGR.out.1 HGR.out.2
      go_wp2_with fail
      refine hK.out _ _ hs101 (fun _ => ?_)
      clear hK K
      try simp only [zp, zn, z1, z2, z3]
      obtain ⟨f1, f2⟩ := k100.out.rows (B8 D1).toArray
      have F2 := Lh f2
      clear f2
      refine wpAnyH_ready (rs := [10]) (by kernel_rfl) (by simp) ?_
      refine AllReadyH.cons (o := kRows2_4) rfl (fun K hK => ?_) AllReadyH.nil
      rw [if_pos (by rfl)]
      refine wp_store_row 29 (.tmp 10) (.tmp 30) rfl (w78.heap.size) (B8 D1).toArray rfl rfl 29 _ f1 (size29' _ HD1l.out) (Z16_size _ HD1l.out) (one8 _) ?_
      refine hK.out _ _ (keep_row (g := w78.heap.size) k100.out HGR.out.1 HGR.out.2) (fun _ => ?_)
      clear hK K
      try simp only [zp, zn, z1, z2, z3]
      refine wpAnyH_ready (rs := [11]) (by kernel_rfl) (by simp) ?_
      refine AllReadyH.cons (o := kRows2_5) rfl (fun K hK => ?_) AllReadyH.nil
      rw [if_pos (by rfl)]
      refine wp_store_row 29 (.tmp 11) (.tmp 34) rfl (Wd.heap.size) (B8 D2).toArray rfl rfl 29 _ F2.out (size29' _ HD2l.out) (Z16_size _ HD2l.out) (one8 _) ?_
      have KE := Lh (k100.out.fill T D1 D2)
      refine hK.out _ _ (E5.cell KE.out HGR.out.1 HGR.out.2) (fun _ => ?_)
      clear hK K
      try simp only [zp, zn, z1, z2, z3]
      refine wpAnyH_done (by kernel_rfl) ?_ _
      try simp only [zp, zn, z1, z2, z3]
      go_wp2_with fail
      go_meet
      exact ⟨w78.heap.size, Wd.heap.size, rfl, rfl, KE⟩
   case rest =>
    obtain ⟨gl, gq, rfl, rfl, KE⟩ := hcut
    have HB6 := KE.out.blks
    have HGLQ := Lh (KE.out.apart)
    obtain ⟨w4, hw4⟩ : ∃ w4, w4 = wc := ⟨_, rfl⟩
    rw [← hw4] at KE HB6 ⊢
    clear hw4 HB6
    go_wp2_with fail
    refine wp_region_held (S := fun W => Blk W gl 29 (B8 D1) ∧ Blk W gq 29 (B8 D2)) (by kernel_rfl) ?_
    change wpAnyH _ _ _ _ _ _ _ _ (World.drew w4)
    have KD := Lh (KE.out.below T (Below.refl _ _).drew)
    have hs0 := KD.out.blks
    generalize World.drew w4 = Wd at KD hs0 ⊢
    refine tkH 0 ({ dst := some 35, op := Op.slice 29 (Operand.tmp 10) none none none, type := 39, pos := "merkle.go:159", after := #[], guard := none }) (.slice (some ⟨gl, 0, none⟩) 16 16) hs0 (fun W hW => ?y1) ?_
    case y1 => go_simp
    try simp only [zp, zn, z1, z2, z3]
    refine tkH 1 ({ dst := some 36, op := Op.convert 39 9 (Operand.tmp 35), type := 9, pos := "merkle.go:159", after := #[dD 0], guard := none }) (.string (bs D1)) hs0 (fun W hW => by have hcd := HCV.out _ _ _ HD1l.out hW.1; go_simp) ?_
    try simp only [zp, zn, z1, z2, z3]
    refine tkH 2 ({ dst := some 37, op := Op.slice 29 (Operand.tmp 11) none none none, type := 39, pos := "merkle.go:159", after := #[], guard := none }) (.slice (some ⟨gq, 0, none⟩) 16 16) hs0 (fun W hW => ?y3) ?_
    case y3 => go_simp
    try simp only [zp, zn, z1, z2, z3]
    refine tkH 3 ({ dst := some 38, op := Op.convert 39 9 (Operand.tmp 37), type := 9, pos := "merkle.go:159", after := #[dD 2], guard := none }) (.string (bs D2)) hs0 (fun W hW => by have hcd := HCV.out _ _ _ HD2l.out hW.2; go_simp) ?_
    try simp only [zp, zn, z1, z2, z3]
    refine wpAnyH_ready (rs := [4]) (by kernel_rfl) (by simp) ?_
    refine AllReadyH.cons (o := { dst := some 39, op := Op.buildSlice 47 2 #[(0, Operand.tmp 36), (1, Operand.tmp 38)], type := 47, pos := "merkle.go:159", after := #[dD 1, dD 3], guard := none }) rfl (fun K hK => ?_) AllReadyH.nil
    rw [if_pos (by rfl)]
    go_simp
    have HB2 := Lh ((Below.refl Wd.heap.size Wd).alloc (Nat.le_refl _) (.cells #[.string (bs D1), .string (bs D2)] 9))
    have K2 := Lh (KD.out.below T HB2.out)
    have hs2 := K2.out.blks
    refine hK.out _ _ hs2 (fun _ => ?_)
    clear hK K
    try simp only [zp, zn, z1, z2, z3]
    refine wpAnyH_ready (rs := [5]) (by kernel_rfl) (by simp) ?_
    refine AllReadyH.cons (o := { dst := some 40, op := Op.call { callee := Callee.value (Operand.func 76), args := #[Operand.const (Value.int IntKind.i64 4), Operand.tmp 39], argTypes := #[3, 47] }, type := 29, pos := "merkle.go:159", after := #[dD 4], guard := none }) rfl (fun K hK => ?_) AllReadyH.nil
    rw [if_pos (by rfl)]
    go_simp
    refine (of_new 4 4 (by rfl) [bs D1, bs D2] 2 rfl HI2.out Wd _ rfl _ rfl ((K2.out.rest B).tab T) R HR).mono ?_; rintro e w5 ⟨rfl, hb5⟩
    have K5 := Lh (K2.out.below T hb5)
    have hs5 := K5.out.blks
    have K5b := (K5.out.rest B).box
    clear hb5
    go_wp2_with fail
    refine hK.out _ _ hs5 (fun _ => ?_)
    clear hK K
    try simp only [zp, zn, z1, z2, z3]
    refine wpAnyH_ready (rs := [6]) (by kernel_rfl) (by simp) ?_
    refine AllReadyH.cons (o := { dst := none, op := Op.store 29 (Operand.tmp 6) (Operand.tmp 40), type := 0, pos := "merkle.go:159", after := #[dD 5, dC 5, dP 0, dP 1, dP 2, dP 3, dP 4, dP 5], guard := none }) rfl (fun K hK => ?_) AllReadyH.nil
    rw [if_pos (by rfl)]
    refine wp_store_row 29 (.tmp 6) (.tmp 40) rfl w.heap.size (B8 R).toArray rfl rfl 29 _ K5b (size29' _ HRl.out) (Z16_size _ HRl.out) (one8 _) ?_
    have hs6 : Blk (w5.setRow w.heap.size (B8 R).toArray) gl 29 (B8 D1) ∧ Blk (w5.setRow w.heap.size (B8 R).toArray) gq 29 (B8 D2) := K5.out.keep HGLQ.out.1 HGLQ.out.2 _
    refine hK.out _ _ hs6 (fun _ => ?_)
    clear hK K
    try simp only [zp, zn, z1, z2, z3]
    refine wpAnyH_done (by kernel_rfl) ?_ _
    try simp only [zp, zn, z1, z2, z3]
    go_wp2_with fail
    refine bodyPost_ret (v := .agg (B8 R).toArray) ?_ rfl ?_
    ·
     have hr := run_loadVar_row (P := Tryd.prog) _ w.heap.size 29 29 (B8 R).toArray (0, 0) (.array 16 5) (heap_setRow w5 w.heap.size (B8 R).toArray _ 29 K5b) Tryd.underlying29 rfl (size29' _ HRl.out)
     simp [results, Tryd.results103, asAddr, hr]
    ·
     rw [HRR.out]; exact ⟨rfl, (K5.out.rest B).close T HB.out _⟩
end
end Go.Proofs.YtofccgkgjcnfbaaDoor
namespace Go.Proofs.YtofccgkgjcnfbaaDoor
open Go.RowKit Wr Sh
set_option linter.unusedVariables false
set_option maxRecDepth 100000
section
variable {σ : Type} {K : Nat} {caps : Array Value} {G : σ → Nat → Nat → (List UInt8 × Bool) × σ} {N B : Nat} {Inv : σ → (Nat → Prop) → World → Prop} {P : σ → Nat → Prop} {s : σ} {O0 : Nat → Prop} {w W : World} {bl br : Option Nat}
set_option maxHeartbeats 1000000 in
theorem divided_any (T : Told K caps G N B Inv P) (hN : N ≤ 1073741824) (a b : Nat) (s : σ) (O : Nat → Prop) (w : World) (hab : a < b) (hbN : b ≤ N) (hi : Inv s O w) (hp : P s a) :
  Calls Tryd.prog 77 #[.int .i64 (a : Int), .int .i64 (b : Int), .func (.func K) #[] caps] w (RowPost Inv (rowG node G s a b).1 (rowG node G s a b).2 O w) := by
 have hZ := hZ16
 obtain ⟨W4, hW4⟩ : ∃ W, W = ((w.alloc (.cells #[.func (.func K) #[] caps] 100)).alloc (.cells Z16.toArray 29)).alloc (.cells #[.func (.func 103) #[] #[.pointer (some ⟨w.heap.size, 0, none⟩), .pointer (some ⟨w.heap.size + 1 + 1, 0, none⟩)]] 155) := ⟨_, rfl⟩
 have N0 : Now Inv s O O w w := ⟨hi, Fr.refl _ _⟩
 have hol := (T.lt _ _ _ hi).2
 have HB := Lh (T.lt _ _ _ hi).1
 have N4 := Lh (show Now Inv s O O w W4 by rw [hW4]; exact ((N0.alloc T _).alloc T _).alloc T _)
 have hb : Blk W4 w.heap.size 100 [.func (.func K) #[] caps] := by rw [hW4]; exact ((Blk.new w 100 [.func (.func K) #[] caps]).alloc _).alloc _
 have hx : Blk W4 (w.heap.size + 1) 29 Z16 := by rw [hW4]; exact (Blk.newAt _ _ 29 Z16 (by simp)).alloc _
 have hr : Blk W4 (w.heap.size + 1 + 1) 155 [.func (.func 103) #[] #[.pointer (some ⟨w.heap.size, 0, none⟩), .pointer (some ⟨w.heap.size + 1 + 1, 0, none⟩)]] := by rw [hW4]; exact Blk.newAt _ _ 155 [.func (.func 103) #[] #[.pointer (some ⟨w.heap.size, 0, none⟩), .pointer (some ⟨w.heap.size + 1 + 1, 0, none⟩)]] (by simp)
 have X4 := Lh (show Box O W4 (w.heap.size + 1) Z16 from ⟨hx, fun h => by have := hol _ h; omega⟩)
 have HC := Lh (row_any T hN _ a b s O W4 w.heap.size (w.heap.size + 1 + 1) (Nat.le_refl _) hab hbN N4.out.inv hp (by rw [hb.cell 0]; rfl) (by rw [hr.cell 0]; rfl) (fun h => by have := hol _ h; omega) (fun h => by have := hol _ h; omega))
 obtain ⟨R, hR⟩ : ∃ R, R = (rowG node G s a b).1 := ⟨_, rfl⟩
 have HRl := Lh (show R.length = 16 by rw [hR]; exact row_len T _ _ _)
 rw [← hR] at HC ⊢
 have HW := Lh hW4
 clear hp hb hx hr hR hol hi N0 hW4
 go_enter Tryd.func77, Tryd.ntmps77
 go_wp2_with fail
 rw [← HW.out]
 refine HC.out.mono ?_; rintro e w5 ⟨rfl, O5, hi5, hf5⟩
 have N5 := Lh (N4.out.step hi5 hf5)
 have X5 := Lh (X4.out.step hf5)
 have Z5 := Lh (show w5.heap[w.heap.size + 1]? = some (.cells Z16.toArray 29 (0, 0)) from X5.out.blk)
 clear hi5 hf5
 go_wp2_with (with_reducible refine wpList_store_row rfl 29 (.tmp 6) (.tmp 12) rfl (w.heap.size + 1) (B8 R).toArray rfl rfl 29 _ Z5.out (size29' _ HRl.out) (Z16_size _ HRl.out) (one8 _) ?_)
 refine bodyPost_ret (v := .agg (B8 R).toArray) ?_ rfl ⟨rfl, O5, ?_⟩
 ·
  have hr := run_loadVar_row (P := Tryd.prog) _ (w.heap.size + 1) 29 29 (B8 R).toArray (0, 0) (.array 16 5) (heap_setRow w5 (w.heap.size + 1) (B8 R).toArray _ 29 Z5.out) Tryd.underlying29 rfl (size29' _ HRl.out)
  simp [results, Tryd.results77, asAddr, hr, Act.put]
 ·
  have := N5.out.row T (g := w.heap.size + 1) (Nat.le_succ _) (Nat.le_trans HB.out (Nat.le_succ _)) X5.out.out (B8 R).toArray
  exact ⟨this.inv, this.fr⟩
end
end Go.Proofs.YtofccgkgjcnfbaaDoor
