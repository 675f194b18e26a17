/-
  The contract of merkle's rootOf.
  Conditions: the function that it is handed does as Told says; the table of the round constants is as the text lays it.
-/
import Derived.Test.YtofccgkgjcnfbaaDoorRows2
import Derived.Test.YtofccgkgjcnfbaaDoorInts
namespace Go.Proofs.YtofccgkgjcnfbaaDoor
open Go.RowKit Wr Sh
set_option linter.unusedVariables false
set_option maxRecDepth 100000

theorem conv_rd (A : Option Addr) (T : List UInt8) (c B : Nat) (W : World) (h : Rd W B A (B8 T)) (N : Nat) (hN : N = T.length) (h0 : 0 < N) :
    (convert 39 9 (.slice A N c)).run Tryd.prog W = .ok (.string (bs T)) W := by
  subst hN
  obtain ⟨g, o, rfl, hg, hc⟩ := h (by intro e; have := congrArg List.length e; rw [B8_len] at this; simp only [List.length_nil] at this; omega)
  exact conv_at g o c T W hc

theorem int_s (n : Int) (w : World) (h : okInt n) (E : List UInt8) (hE : Hid (E = enc n)) (M : Nat) (hM : Hid (M = E.length)) :
    Calls Tryd.prog 47 #[.int .i64 n] w fun e w' => ∃ (A' : Option Addr) (c' : Nat), e = .returned (.slice A' M c') ∧ M ≤ c' ∧ Rd w' w'.heap.size A' (B8 E) ∧ Below w.heap.size w w' := by
  rw [hM.out, hE.out]
  refine (int_any n w h.1 h.2).mono ?_
  rintro e w' ⟨v, rfl, ho, hb⟩
  obtain ⟨A', c', rfl, h1, _, h3⟩ := own_form ho
  exact ⟨A', c', rfl, h1, h3, hb⟩

theorem inp_1 (t : UInt8) (a : ByteArray) (ha : a.size ≤ 1073741824) : (inp t [a]).length ≤ 274877906944 := by
  have h2 := inp_cons t a []
  have h3 := inp_nil t
  omega
/-- What stands above the leaves. -/
def top (n : Int) : Option (List UInt8) → List UInt8
  | none => dof 4 [bs (enc n)]
  | some d => dof 4 [bs (enc n), bs d]
section
variable {σ : Type} {K : Nat} {caps : Array Value} {G : σ → Nat → Nat → (List UInt8 × Bool) × σ} {N B : Nat} {Inv : σ → (Nat → Prop) → World → Prop} {P : σ → Nat → Prop}
theorem S5.step {s : σ} {O0 : Nat → Prop} {w W : World} {bl br : Option Nat} (h : S5 Inv B O0 w s bl br W) : ∃ O, Inv s O W ∧ ∀ s' O' W', Inv s' O' W' → Fr O O' W W' → S5 Inv B O0 w s' bl br W' := by
  obtain ⟨O, h1, h2, h3, h4, h5⟩ := h
  exact ⟨O, h1.inv, fun s' O' W' hi hf => ⟨O', h1.step hi hf, h2.step hf, fun g hg => ⟨(h3 g hg).1.step hf, (h3 g hg).2⟩, fun g hg => ⟨(h4 g hg).1.step hf, (h4 g hg).2⟩, h5⟩⟩
theorem rootRun_len (T : Told K caps G N B Inv P) (s : σ) (n : Nat) : (rootRun node top G s n).1.length = 16 := by
  unfold rootRun top; split <;> exact dof_len _ _
set_option maxHeartbeats 2000000 in
theorem rootOf_any (T : Told K caps G N B Inv P) (hN : N ≤ 1073741824) (n : Nat) (s : σ) (O : Nat → Prop) (w : World) (hn : n ≤ N) (hi : Inv s O w) (hp : P s 0) :
    Calls Tryd.prog 50 #[.int .i64 (n : Int), .func (.func K) #[] caps] w (RowPost Inv (rootRun node top G s n).1 (rootRun node top G s n).2 O w) := by
  obtain ⟨E, hE⟩ : ∃ E, E = enc (n : Int) := ⟨_, rfl⟩
  obtain ⟨M, hM⟩ : ∃ M, M = E.length := ⟨_, rfl⟩
  have hM1 : 1 ≤ M ∧ M ≤ 9 := by rw [hM, hE]; exact enc_le _
  have HE := Lib.hid hE
  have HM := Lib.hid hM
  have hZ := hZ16
  obtain ⟨W1, hW1⟩ : ∃ W, W = w.alloc (.cells Z16.toArray 29) := ⟨_, rfl⟩
  have K1 := Lib.hid (S5.first (B := B) T hi hW1)
  have HB := Lib.hid (T.lt _ _ _ hi).1
  have HW := Lib.hid hW1
  have HOK := Lib.hid (show okInt (n : Int) from ⟨by omega, by omega⟩)
  have HES := Lib.hid (show (bs E).size ≤ 1073741824 by rw [bs_size, ← hM]; omega)
  have HP := Lib.hid hp
  clear hp hW1 hE hM hi
  go_enter Tryd.func50, Tryd.ntmps50
  go_wp2_with fail
  rw [← HW.out]
  refine (int_s (n : Int) _ HOK.out E HE M HM).mono ?_; rintro e w2 ⟨A2, c2, rfl, hc2, hr2, hb2⟩
  have k2 := Lib.hid (K1.out.below T hb2)
  have hcv := conv_rd A2 E c2 _ w2 hr2 M HM.out (by omega)
  clear hb2 hr2
  rcases Nat.eq_zero_or_pos n with h0 | h0
  · subst h0
    obtain ⟨R, hR⟩ : ∃ R, R = dof 4 [bs E] := ⟨_, rfl⟩
    have HR := Lib.hid hR
    have HRl := Lib.hid (show R.length = 16 by rw [hR]; exact dof_len _ _)
    have HRR := Lib.hid (show rootRun node top G s 0 = (R, s) by rw [hR, HE.out]; rfl)
    have HI1 := Lib.hid (inp_1 4 (bs E) HES.out)
    clear hR
    go_wp2_with fail
    have k3 := Lib.hid (k2.out.below T ((Below.refl _ _).alloc (Nat.le_refl _) (.cells #[.string (bs E)] 9)))
    refine (of_new 4 4 (by rfl) [bs E] 1 rfl HI1.out w2 _ rfl _ rfl (k3.out.tab T) R HR).mono ?_; rintro e w5 ⟨rfl, hb5⟩
    have k5 := Lib.hid (k3.out.below T hb5)
    have Z5 := Lib.hid k5.out.box
    clear hb5 hcv
    go_wp2_with (with_reducible refine wpList_store_row rfl 29 (.tmp 4) (.tmp 14) rfl w.heap.size (B8 R).toArray rfl rfl 29 _ Z5.out (size29' _ HRl.out) (Z16_size _ HRl.out) (one8 _) ?_)
    refine bodyPost_ret (v := .agg (B8 R).toArray) ?_ rfl ?_
    · have hr := run_loadVar_row (P := Tryd.prog) _ w.heap.size 29 29 (B8 R).toArray (0, 0) (.array 16 5) (heap_setRow w5 w.heap.size (B8 R).toArray _ 29 Z5.out) Tryd.underlying29 rfl (size29' _ HRl.out)
      simp [results, Tryd.results50, asAddr, hr, Act.put]
    · rw [HRR.out]; exact ⟨rfl, k5.out.close T HB.out _⟩
  · obtain ⟨s3, D, hD⟩ : ∃ s3 D, rowG node G s 0 n = (D, s3) := ⟨_, _, rfl⟩
    obtain ⟨R, hR⟩ : ∃ R, R = dof 4 [bs E, bs D] := ⟨_, rfl⟩
    have HR := Lib.hid hR
    have HRl := Lib.hid (show R.length = 16 by rw [hR]; exact dof_len _ _)
    have HDl := Lib.hid (show D.length = 16 by have := row_len T s 0 n; rw [hD] at this; exact this)
    have HRR := Lib.hid (show rootRun node top G s n = (R, s3) by
      unfold rootRun
      rw [if_neg (by omega), hD, hR, HE.out]; rfl)
    have HI2 := Lib.hid (inp_2 4 (bs E) (bs D) HES.out (by rw [bs_size, HDl.out]; omega))
    obtain ⟨oo, hio, hst⟩ := k2.out.step
    have HST := Lib.hid hst
    have HC := Lib.hid (divided_any T hN 0 n s oo w2 h0 hn hio HP.out)
    rw [hD] at HC
    have hn0 : ((n : Int) == 0) = false := by rw [beq_eq_false_iff_ne]; omega
    clear hR hD hst hio
    go_wp2_with fail
    refine HC.out.mono ?_; rintro e w3 ⟨rfl, O3, hi3, hf3⟩
    have k3 := Lib.hid (HST.out _ _ _ hi3 hf3)
    clear hi3 hf3 hcv HC HST
    obtain ⟨W4, hW4⟩ : ∃ W, W = (w3.alloc (.cells Z16.toArray 29)).setRow w3.heap.size (B8 D).toArray := ⟨_, rfl⟩
    have k4 := Lib.hid (show S5 Inv B O w s3 none none W4 by rw [hW4]; exact k3.out.below T (belowRow ((Below.refl _ _).alloc (Nat.le_refl _) _) (Nat.le_refl _) _))
    have d4 : Blk W4 w3.heap.size 29 (B8 D) := by rw [hW4]; exact (Blk.new w3 29 Z16).row _
    have hcd : (convert 39 9 (.slice (some ⟨w3.heap.size, 0, none⟩) 16 16)).run Tryd.prog W4 = .ok (.string (bs D)) W4 := by
      have := conv_at w3.heap.size 0 16 D W4 (fun j u hu => by rw [Nat.zero_add, d4.cell]; exact hu)
      rw [HDl.out] at this; exact this
    have HW4 := Lib.hid hW4
    clear hW4 d4
    go_wp2_with (with_reducible refine wpList_store_row rfl 29 (.tmp 6) (.tmp 17) rfl w3.heap.size (B8 D).toArray rfl rfl 29 _ (heap_alloc_new w3 _) (size29' _ HDl.out) (Z16_size _ HDl.out) (one8 _) ?_; rw [← HW4.out])
    have k5 := Lib.hid (k4.out.below T ((Below.refl _ _).alloc (Nat.le_refl _) (.cells #[.string (bs E), .string (bs D)] 9)))
    refine (of_new 4 4 (by rfl) [bs E, bs D] 2 rfl HI2.out W4 _ rfl _ rfl (k5.out.tab T) R HR).mono ?_; rintro e w5 ⟨rfl, hb5⟩
    have k6 := Lib.hid (k5.out.below T hb5)
    have Z5 := Lib.hid k6.out.box
    clear hb5 hcd
    go_wp2_with (with_reducible refine wpList_store_row rfl 29 (.tmp 4) (.tmp 22) rfl w.heap.size (B8 R).toArray rfl rfl 29 _ Z5.out (size29' _ HRl.out) (Z16_size _ HRl.out) (one8 _) ?_)
    refine bodyPost_ret (v := .agg (B8 R).toArray) ?_ rfl ?_
    · have hr := run_loadVar_row (P := Tryd.prog) _ w.heap.size 29 29 (B8 R).toArray (0, 0) (.array 16 5) (heap_setRow w5 w.heap.size (B8 R).toArray _ 29 Z5.out) Tryd.underlying29 rfl (size29' _ HRl.out)
      simp [results, Tryd.results50, asAddr, hr, Act.put]
    · rw [HRR.out]; exact ⟨rfl, k6.out.close T HB.out _⟩
end
end Go.Proofs.YtofccgkgjcnfbaaDoor
