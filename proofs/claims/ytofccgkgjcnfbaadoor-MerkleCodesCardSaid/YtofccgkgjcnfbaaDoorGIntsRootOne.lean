/-
  Contracts and words of several parts of the program (Ints, Root, One), one after the other.
  Conditions: those that each says.
-/
import Derived.Test.YtofccgkgjcnfbaaDoorGPure3Put
import Derived.Test.YtofccgkgjcnfbaaDoorZ
import Derived.Test.YtofccgkgjcnfbaaDoorRows2
set_option linter.unusedSimpArgs false
namespace Go.Proofs.YtofccgkgjcnfbaaDoor
open Go.RowKit Wr Sh
set_option linter.unusedVariables false
set_option maxRecDepth 100000
set_option maxHeartbeats 400000 in
theorem int_any (n : Int) (w : World) (h0 : -9223372036854775808 ≤ n) (h1 : n ≤ 9223372036854775807) :
  Calls Tryd.prog 47 #[.int .i64 n] w fun e w' => ∃ v', e = .returned v' ∧ w'.ownsRow w.heap.size 5 1 v' (enc n).length (B8 (enc n)) ∧ Below w.heap.size w w' := by
 go_enter Tryd.func47, Tryd.ntmps47
 go_wp2_with (go_at_call 69; refine (appendInt_any _ n _ w.heap.size 0 [] (Nat.le_refl _) (World.ownsRow_nil _ _ _ _) (by omega) h0 h1).mono ?_; rintro e w' ⟨v', rfl, ho, hb⟩)
 go_ret
 exact ⟨v', rfl, by simpa using ho, hb⟩
def partE {α : Type} (e : α → List UInt8) (l : List α) (j : Nat) : List UInt8 := enc (l.length : Int) ++ ((l.take j).map e).flatten
theorem partE_zero {α : Type} (e : α → List UInt8) (l : List α) : partE e l 0 = enc (l.length : Int) := by simp [partE]
theorem partE_succ {α : Type} (e : α → List UInt8) (l : List α) (j : Nat) (h : j < l.length) : partE e l (j + 1) = partE e l j ++ e l[j] := by
 unfold partE
 rw [List.take_succ_eq_append_getElem h, List.map_append, List.flatten_append, ← List.append_assoc]
 simp only [List.map_cons, List.map_nil, List.flatten_cons, List.flatten_nil, List.append_nil]
theorem partE_all {α : Type} (e : α → List UInt8) (l : List α) : partE e l l.length = encList e l := by simp [partE, encList]
end Go.Proofs.YtofccgkgjcnfbaaDoor
namespace Go.Proofs.YtofccgkgjcnfbaaDoor
open Go.RowKit Wr Sh
set_option linter.unusedVariables false
set_option maxRecDepth 100000
theorem conv_rd (A : Option Addr) (T : List UInt8) (c B : Nat) (W : World) (h : Rd W B A (B8 T)) (N : Nat) (hN : N = T.length) (h0 : 0 < N) :
  (convert 39 9 (.slice A N c)).run Tryd.prog W = .ok (.string (bs T)) W := by
 subst hN
 obtain ⟨g, o, rfl, hg, hc⟩ := h (by intro e; have := congrArg List.length e; rw [B8_len] at this; simp only [List.length_nil] at this; omega)
 exact conv_at g o c T W hc
theorem int_s (n : Int) (w : World) (h : okInt n) (E : List UInt8) (hE : Hid (E = enc n)) (M : Nat) (hM : Hid (M = E.length)) :
  Calls Tryd.prog 47 #[.int .i64 n] w fun e w' => ∃ (A' : Option Addr) (c' : Nat), e = .returned (.slice A' M c') ∧ M ≤ c' ∧ Rd w' w'.heap.size A' (B8 E) ∧ Below w.heap.size w w' := by
 rw [hM.out, hE.out]
 refine (int_any n w h.1 h.2).mono ?_
 rintro e w' ⟨v, rfl, ho, hb⟩
 obtain ⟨A', c', rfl, h1, _, h3⟩ := own_form ho
 exact ⟨A', c', rfl, h1, h3, hb⟩
theorem inp_1 (t : UInt8) (a : ByteArray) (ha : a.size ≤ 1073741824) : (inp t [a]).length ≤ 274877906944 := by
 have h2 := inp_cons t a []
 have h3 := inp_nil t
 omega
def top (n : Int) : Option (List UInt8) → List UInt8
 | none => dof 4 [bs (enc n)]
 | some d => dof 4 [bs (enc n), bs d]
section
variable {σ : Type} {K : Nat} {caps : Array Value} {G : σ → Nat → Nat → (List UInt8 × Bool) × σ} {N B : Nat} {Inv : σ → (Nat → Prop) → World → Prop} {P : σ → Nat → Prop}
theorem S5.step {s : σ} {O0 : Nat → Prop} {w W : World} {bl br : Option Nat} (h : S5 Inv B O0 w s bl br W) : ∃ O, Inv s O W ∧ ∀ s' O' W', Inv s' O' W' → Fr O O' W W' → S5 Inv B O0 w s' bl br W' := by
 obtain ⟨O, h1, h2, h3, h4, h5⟩ := h
 exact ⟨O, h1.inv, fun s' O' W' hi hf => ⟨O', h1.step hi hf, h2.step hf, fun g hg => ⟨(h3 g hg).1.step hf, (h3 g hg).2⟩, fun g hg => ⟨(h4 g hg).1.step hf, (h4 g hg).2⟩, h5⟩⟩
theorem rootRun_len (T : Told K caps G N B Inv P) (s : σ) (n : Nat) : (rootRun node top G s n).1.length = 16 := by
 unfold rootRun top; split <;> exact dof_len _ _
set_option maxHeartbeats 2000000 in
theorem rootOf_any (T : Told K caps G N B Inv P) (hN : N ≤ 1073741824) (n : Nat) (s : σ) (O : Nat → Prop) (w : World) (hn : n ≤ N) (hi : Inv s O w) (hp : P s 0) :
  Calls Tryd.prog 50 #[.int .i64 (n : Int), .func (.func K) #[] caps] w (RowPost Inv (rootRun node top G s n).1 (rootRun node top G s n).2 O w) := by
 obtain ⟨E, hE⟩ : ∃ E, E = enc (n : Int) := ⟨_, rfl⟩
 obtain ⟨M, hM⟩ : ∃ M, M = E.length := ⟨_, rfl⟩
 have hM1 : 1 ≤ M ∧ M ≤ 9 := by rw [hM, hE]; exact enc_le _
 have HE := Lh hE
 have HM := Lh hM
 have hZ := hZ16
 obtain ⟨W1, hW1⟩ : ∃ W, W = w.alloc (.cells Z16.toArray 29) := ⟨_, rfl⟩
 have K1 := Lh (S5.first (B := B) T hi hW1)
 have HB := Lh (T.lt _ _ _ hi).1
 have HW := Lh hW1
 have HOK := Lh (show okInt (n : Int) from ⟨by omega, by omega⟩)
 have HES := Lh (show (bs E).size ≤ 1073741824 by rw [bs_size, ← hM]; omega)
 have HP := Lh hp
 clear hp hW1 hE hM hi
 go_enter Tryd.func50, Tryd.ntmps50
 go_wp2_with fail
 rw [← HW.out]
 refine (int_s (n : Int) _ HOK.out E HE M HM).mono ?_; rintro e w2 ⟨A2, c2, rfl, hc2, hr2, hb2⟩
 have k2 := Lh (K1.out.below T hb2)
 have hcv := conv_rd A2 E c2 _ w2 hr2 M HM.out (by omega)
 clear hb2 hr2
 rcases Nat.eq_zero_or_pos n with h0 | h0
 ·
  subst h0
  obtain ⟨R, hR⟩ : ∃ R, R = dof 4 [bs E] := ⟨_, rfl⟩
  have HR := Lh hR
  have HRl := Lh (show R.length = 16 by rw [hR]; exact dof_len _ _)
  have HRR := Lh (show rootRun node top G s 0 = (R, s) by rw [hR, HE.out]; rfl)
  have HI1 := Lh (inp_1 4 (bs E) HES.out)
  clear hR
  go_wp2_with fail
  have k3 := Lh (k2.out.below T ((Below.refl _ _).alloc (Nat.le_refl _) (.cells #[.string (bs E)] 9)))
  refine (of_new 4 4 (by rfl) [bs E] 1 rfl HI1.out w2 _ rfl _ rfl (k3.out.tab T) R HR).mono ?_; rintro e w5 ⟨rfl, hb5⟩
  have k5 := Lh (k3.out.below T hb5)
  have Z5 := Lh k5.out.box
  clear hb5 hcv
  go_wp2_with (with_reducible refine wpList_store_row rfl 29 (.tmp 4) (.tmp 14) rfl w.heap.size (B8 R).toArray rfl rfl 29 _ Z5.out (size29' _ HRl.out) (Z16_size _ HRl.out) (one8 _) ?_)
  refine bodyPost_ret (v := .agg (B8 R).toArray) ?_ rfl ?_
  ·
   have hr := run_loadVar_row (P := Tryd.prog) _ w.heap.size 29 29 (B8 R).toArray (0, 0) (.array 16 5) (heap_setRow w5 w.heap.size (B8 R).toArray _ 29 Z5.out) Tryd.underlying29 rfl (size29' _ HRl.out)
   simp [results, Tryd.results50, asAddr, hr, Act.put]
  ·
   rw [HRR.out]; exact ⟨rfl, k5.out.close T HB.out _⟩
 ·
  obtain ⟨s3, D, hD⟩ : ∃ s3 D, rowG node G s 0 n = (D, s3) := ⟨_, _, rfl⟩
  obtain ⟨R, hR⟩ : ∃ R, R = dof 4 [bs E, bs D] := ⟨_, rfl⟩
  have HR := Lh hR
  have HRl := Lh (show R.length = 16 by rw [hR]; exact dof_len _ _)
  have HDl := Lh (show D.length = 16 by have := row_len T s 0 n; rw [hD] at this; exact this)
  have HRR := Lh (show rootRun node top G s n = (R, s3) by
   unfold rootRun
   rw [if_neg (by omega), hD, hR, HE.out]; rfl)
  have HI2 := Lh (inp_2 4 (bs E) (bs D) HES.out (by rw [bs_size, HDl.out]; omega))
  obtain ⟨oo, hio, hst⟩ := k2.out.step
  have HST := Lh hst
  have HC := Lh (divided_any T hN 0 n s oo w2 h0 hn hio HP.out)
  rw [hD] at HC
  have hn0 : ((n : Int) == 0) = false := by rw [beq_eq_false_iff_ne]; omega
  clear hR hD hst hio
  go_wp2_with fail
  refine HC.out.mono ?_; rintro e w3 ⟨rfl, O3, hi3, hf3⟩
  have k3 := Lh (HST.out _ _ _ hi3 hf3)
  clear hi3 hf3 hcv HC HST
  obtain ⟨W4, hW4⟩ : ∃ W, W = (w3.alloc (.cells Z16.toArray 29)).setRow w3.heap.size (B8 D).toArray := ⟨_, rfl⟩
  have k4 := Lh (show S5 Inv B O w s3 none none W4 by rw [hW4]; exact k3.out.below T (belowRow ((Below.refl _ _).alloc (Nat.le_refl _) _) (Nat.le_refl _) _))
  have d4 : Blk W4 w3.heap.size 29 (B8 D) := by rw [hW4]; exact (Blk.new w3 29 Z16).row _
  have hcd : (convert 39 9 (.slice (some ⟨w3.heap.size, 0, none⟩) 16 16)).run Tryd.prog W4 = .ok (.string (bs D)) W4 := by
   have := conv_at w3.heap.size 0 16 D W4 (fun j u hu => by rw [Nat.zero_add, d4.cell]; exact hu)
   rw [HDl.out] at this; exact this
  have HW4 := Lh hW4
  clear hW4 d4
  go_wp2_with (with_reducible refine wpList_store_row rfl 29 (.tmp 6) (.tmp 17) rfl w3.heap.size (B8 D).toArray rfl rfl 29 _ (heap_alloc_new w3 _) (size29' _ HDl.out) (Z16_size _ HDl.out) (one8 _) ?_; rw [← HW4.out])
  have k5 := Lh (k4.out.below T ((Below.refl _ _).alloc (Nat.le_refl _) (.cells #[.string (bs E), .string (bs D)] 9)))
  refine (of_new 4 4 (by rfl) [bs E, bs D] 2 rfl HI2.out W4 _ rfl _ rfl (k5.out.tab T) R HR).mono ?_; rintro e w5 ⟨rfl, hb5⟩
  have k6 := Lh (k5.out.below T hb5)
  have Z5 := Lh k6.out.box
  clear hb5 hcd
  go_wp2_with (with_reducible refine wpList_store_row rfl 29 (.tmp 4) (.tmp 22) rfl w.heap.size (B8 R).toArray rfl rfl 29 _ Z5.out (size29' _ HRl.out) (Z16_size _ HRl.out) (one8 _) ?_)
  refine bodyPost_ret (v := .agg (B8 R).toArray) ?_ rfl ?_
  ·
   have hr := run_loadVar_row (P := Tryd.prog) _ w.heap.size 29 29 (B8 R).toArray (0, 0) (.array 16 5) (heap_setRow w5 w.heap.size (B8 R).toArray _ 29 Z5.out) Tryd.underlying29 rfl (size29' _ HRl.out)
   simp [results, Tryd.results50, asAddr, hr, Act.put]
  ·
   rw [HRR.out]; exact ⟨rfl, k6.out.close T HB.out _⟩
end
end Go.Proofs.YtofccgkgjcnfbaaDoor
namespace Go.Proofs.YtofccgkgjcnfbaaDoor
open Go.RowKit Wr Sh
set_option linter.unusedVariables false
set_option maxRecDepth 100000
theorem digestOf_any (A : Option Addr) (n c : Nat) (w : World) : Calls Tryd.prog 51 #[.slice A n c] w fun e w' => e = .returned (.func (.func 78) #[] #[.pointer (some ⟨w.heap.size, 0, none⟩)]) ∧ w' = w.alloc (.cells #[.slice A n c] 33) := by
 go_enter Tryd.func51, Tryd.ntmps51
 go_wp2_with fail
 go_ret
 exact ⟨rfl, rfl⟩
structure LeafAt (B gv : Nat) (A : Option Addr) (L : List Lf) (c : Nat) (W : World) : Prop where
 cell : W.cell? ⟨gv, 0, none⟩ = some (.slice A L.length c)
 rd : Rd W B A (LC L)
 tab : Tab 1 W
def okL (L : List Lf) : Prop := L.length ≤ 1073741824 ∧ ∀ x ∈ L, x.1.size ≤ 1073741824 ∧ x.2.size ≤ 1073741824
theorem LeafAt.keep {B gv : Nat} {A : Option Addr} {L : List Lf} {c : Nat} {W W' : World} (h : LeafAt B gv A L c W) (hB : 1 < B) (hs : W.heap.size ≤ W'.heap.size) (hk : ∀ k, k < W.heap.size → (k < B ∨ k = gv) → W'.heap[k]? = W.heap[k]?) : LeafAt B gv A L c W' := by
 refine ⟨(World.cell?_of_block (hk gv (World.block_lt_of_cell? _ _ h.cell) (.inr rfl))).trans h.cell, ?_, ?_⟩
 ·
  intro hn
  obtain ⟨g, o, e, hb, hc⟩ := h.rd hn
  exact ⟨g, o, e, hb, fun j u hu => (World.cell?_of_block (hk g (World.block_lt_of_cell? _ _ (hc j u hu)) (.inl hb))).trans (hc j u hu)⟩
 ·
  exact ⟨Nat.lt_of_lt_of_le h.tab.1 hs, fun t ht => (World.cell?_of_block (a := ⟨1, t, none⟩) (hk 1 h.tab.1 (.inl hB))).trans (h.tab.2 t ht)⟩
theorem LeafAt.below {B gv : Nat} {A : Option Addr} {L : List Lf} {c : Nat} {W W' : World} (h : LeafAt B gv A L c W) (hB : 1 < B) (hb : Below W.heap.size W W') : LeafAt B gv A L c W' := h.keep hB hb.size fun k hk _ => hb.block k hk
def InvS (Bl B gv : Nat) (A : Option Addr) (L : List Lf) (c : Nat) (_ : Unit) (O : Nat → Prop) (W : World) : Prop := (∀ k, ¬ O k) ∧ B ≤ W.heap.size ∧ LeafAt Bl gv A L c W
theorem single_any (B gv : Nat) (A : Option Addr) (L : List Lf) (c : Nat) (hL : okL L) (W : World) (h : LeafAt B gv A L c W) (a b : Nat) (hab : a < b) (hb : b ≤ L.length) :
  Calls Tryd.prog 78 #[.int .i64 (a : Int), .int .i64 (b : Int), .pointer (some ⟨gv, 0, none⟩)] W fun e W' => e = .returned (.tuple #[.agg (B8 (gSingle (leafAt lf L) () a b).1.1).toArray, .bool (gSingle (leafAt lf L) () a b).1.2]) ∧ Below W.heap.size W W' := by
 have hl := hL.1
 by_cases h1 : 1 < b - a
 ·
  have e : gSingle (leafAt lf L) () a b = ((List.replicate 16 0, false), ()) := by unfold gSingle; rw [if_pos h1]
  rw [e]
  exact single_more a b gv W (by omega) (by omega) (by omega)
 ·
  have e : gSingle (leafAt lf L) () a b = ((leafAt lf L a, true), ()) := by unfold gSingle; rw [if_neg h1]
  rw [e]
  have ha : a < L.length := by omega
  obtain ⟨gl, o, rfl, hg, hc⟩ := h.rd (by intro e; have := congrArg List.length e; rw [LC_len] at this; simp at this; omega)
  obtain ⟨c1, c2⟩ := LC_at L a ha
  have hz := hL.2 L[a] (List.getElem_mem ha)
  exact single_one a b L.length c gv gl o L[a].1 L[a].2 W hl ha (by omega) (by omega) hz.1 hz.2 ⟨h.cell, hc _ _ c1, by rw [Nat.add_assoc]; exact hc _ _ c2⟩ h.tab _ (Lib.hid (by unfold leafAt lf; rw [List.getD_eq_getElem?_getD, List.getElem?_eq_getElem ha]; rfl))
theorem toldSingle (Bl B gv : Nat) (A : Option Addr) (L : List Lf) (c : Nat) (hv : gv < B) (hB : 1 < Bl) (hBl : Bl ≤ B) (hL : okL L) :
  Told 78 #[.pointer (some ⟨gv, 0, none⟩)] (gSingle (leafAt lf L)) L.length B (InvS Bl B gv A L c) (fun _ _ => True) where
 enters := enters_of Tryd.func78 (by kernel_rfl) rfl
 call := by
  intro s O W a b hi _ hab hbN
  refine (single_any Bl gv A L c hL W hi.2.2 a b hab hbN).mono ?_
  rintro e W' ⟨rfl, hb⟩
  exact ⟨rfl, O, ⟨hi.1, Nat.le_trans hi.2.1 hb.size, hi.2.2.below hB hb⟩, hb.os, hb.tape, hb.output, hb.size, fun k hk _ => hb.block k hk, fun k hk => .inl hk⟩
 next := fun _ _ _ _ _ _ => trivial
 same := fun _ _ _ _ _ _ => trivial
 one := by intro s a b h; unfold gSingle; rw [if_neg (by omega)]
 len := by
  intro s a b; unfold gSingle
  split
  ·
   rfl
  ·
   exact dof_len _ _
 stay := fun s O W W' hi hs hk => ⟨hi.1, Nat.le_trans hi.2.1 hs, hi.2.2.keep hB hs (fun k h1 h2 => hk k h1 (.inl (by omega)))⟩
 lt := fun s O W hi => ⟨hi.2.1, fun k hk => absurd hk (hi.1 k)⟩
 tab := fun s O W hi => hi.2.2.tab
theorem tree_any (Bl gv : Nat) (A : Option Addr) (L : List Lf) (c : Nat) (hB : 1 < Bl) (hL : okL L) (a b : Nat) (w : World) (hab : a < b) (hb : b ≤ L.length) (hBw : Bl ≤ w.heap.size) (h : LeafAt Bl gv A L c w)
  (R : List UInt8) (hR : Hid (R = tree node (leafAt lf L) a b)) :
  Calls Tryd.prog 77 #[.int .i64 (a : Int), .int .i64 (b : Int), .func (.func 78) #[] #[.pointer (some ⟨gv, 0, none⟩)]] w fun e w' => e = .returned (.agg (B8 R).toArray) ∧ Below w.heap.size w w' := by
 refine (divided_any (toldSingle Bl w.heap.size gv A L c (World.block_lt_of_cell? _ _ h.cell) hB hBw hL) hL.1 a b () (fun _ => False) w hab hb ⟨fun _ => id, Nat.le_refl _, h⟩ trivial).mono ?_
 rintro e w' ⟨rfl, O', _, hf⟩
 rw [row_single node (leafAt lf L) _ a b (Nat.le_refl _), ← hR.out]
 exact ⟨rfl, hf.toBelow⟩
end Go.Proofs.YtofccgkgjcnfbaaDoor
