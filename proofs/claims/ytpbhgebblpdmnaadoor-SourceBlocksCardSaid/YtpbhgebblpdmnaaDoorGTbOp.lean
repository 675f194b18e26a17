/-
  Contracts and words of several parts of the program (Tb, Op), one after the other.
  Conditions: those that each says.
-/
import Derived.Test.YtpbhgebblpdmnaaDoorZ
import Derived.Test.YtpbhgebblpdmnaaDoorGNvSnWzBx
import Derived.Lib.ItoaNum
import Derived.Lib.LaidTab
namespace Go.Proofs.YtpbhgebblpdmnaaDoor
open Go.RowKit Wr Src
set_option linter.unusedVariables false
set_option maxRecDepth 100000
def ShC (k : Nat) : List Value := [sv (Src.shape k).word, sv (Src.shape k).parts, nv (Src.shape k).low, nv (Src.shape k).high]
def sgnT : List (Str × Nat × Int) := [([60, 61], 1, 27), ([61, 61], 1, 28), ([60], 1, 26), ([43], 2, 29), ([45], 2, 30), ([42], 3, 31), ([61], 0, 0), ([59], 0, 0), ([46], 0, 0), ([40], 0, 0), ([41], 0, 0), ([123], 0, 0), ([125], 0, 0)]
def sgn (k : Nat) : Str × Nat × Int := sgnT.getD k ([], 0, 0)
def SgC (k : Nat) : List Value := [sv (sgn k).1, nv (sgn k).2.1, iv (sgn k).2.2]
structure TabAt (B : Nat) (w : World) (bs os cs bg og cg : Nat) : Prop where
 v1 : w.cell? ⟨1, 0, none⟩ = some (.slice (some ⟨bs, os, none⟩) 37 cs)
 v0 : w.cell? ⟨0, 0, none⟩ = some (.slice (some ⟨bg, og, none⟩) 13 cg)
 s : ∀ k, k < 37 → ∀ j u, (ShC k)[j]? = some u → w.cell? ⟨bs, os + k * 4 + j, none⟩ = some u
 g : ∀ k, k < 13 → ∀ j u, (SgC k)[j]? = some u → w.cell? ⟨bg, og + k * 3 + j, none⟩ = some u
 p : Lib.TabIs Tryd.prog w "internal/strconv.uint64pow10" .u64 Lib.pow10Tab
 hs : bs < B
 hg : bg < B
 hB : 7 ≤ B
 cs1 : 37 ≤ cs
 cg1 : 13 ≤ cg
 hw : B ≤ w.heap.size
def Tab (B : Nat) (w : World) : Prop := ∃ bs os cs bg og cg, TabAt B w bs os cs bg og cg
theorem kp_cell {Z : Nat → Prop} {w w' : World} (h : Kp Z w w') {B : Nat} (hz : ∀ k, k < B → ¬ Z k) (hw : B ≤ w.heap.size) {p : Addr} (hp : p.block < B) : w'.cell? p = w.cell? p :=
 World.cell?_of_block (h.block p.block (by omega) (hz _ hp))
theorem globP : Tryd.prog.globalNamed "internal/strconv.uint64pow10" = some 4 := by kernel_rfl
theorem tabIs_kp {w w' : World} (h : w'.heap[4]? = w.heap[4]?) (t : Lib.TabIs Tryd.prog w "internal/strconv.uint64pow10" .u64 Lib.pow10Tab) : Lib.TabIs Tryd.prog w' "internal/strconv.uint64pow10" .u64 Lib.pow10Tab := by
 unfold Lib.TabIs World.var? at t ⊢
 rw [globP] at t ⊢
 simp only [Option.bind_some] at t ⊢
 rw [h]; exact t
theorem TabAt.kp {B : Nat} {w w' : World} {bs os cs bg og cg : Nat} {Z : Nat → Prop} (t : TabAt B w bs os cs bg og cg) (h : Kp Z w w') (hz : ∀ k, k < B → ¬ Z k) : TabAt B w' bs os cs bg og cg := by
 have hB := t.hB
 refine ⟨(kp_cell h hz t.hw (Nat.lt_of_lt_of_le (by decide) hB)).trans t.v1, (kp_cell h hz t.hw (Nat.lt_of_lt_of_le (by decide) hB)).trans t.v0, fun k hk j u hu => (kp_cell h hz t.hw t.hs).trans (t.s k hk j u hu), fun k hk j u hu => (kp_cell h hz t.hw t.hg).trans (t.g k hk j u hu), tabIs_kp (h.block _ (by have := t.hw; omega) (hz _ (Nat.lt_of_lt_of_le (show 4 < 7 by decide) hB))) t.p, t.hs, t.hg, t.hB, t.cs1, t.cg1, Nat.le_trans t.hw h.size⟩
theorem Tab.kp {B : Nat} {w w' : World} {Z : Nat → Prop} (t : Tab B w) (h : Kp Z w w') (hz : ∀ k, k < B → ¬ Z k) : Tab B w' := by
 obtain ⟨bs, os, cs, bg, og, cg, t⟩ := t
 exact ⟨bs, os, cs, bg, og, cg, t.kp h hz⟩
theorem Tab.hw {B : Nat} {w : World} (t : Tab B w) : B ≤ w.heap.size := by
 obtain ⟨bs, os, cs, bg, og, cg, t⟩ := t
 exact t.hw
theorem Tab.hB {B : Nat} {w : World} (t : Tab B w) : 7 ≤ B := by
 obtain ⟨bs, os, cs, bg, og, cg, t⟩ := t
 exact t.hB
theorem TabAt.below {B : Nat} {w w' : World} {bs os cs bg og cg : Nat} (t : TabAt B w bs os cs bg og cg) (h : Below w.heap.size w w') : TabAt B w' bs os cs bg og cg := t.kp (Z := fun _ => False) (Kp.of_below' h) (fun _ _ h => h)
theorem Tab.below {B : Nat} {w w' : World} (t : Tab B w) (h : Below w.heap.size w w') : Tab B w' := t.kp (Z := fun _ => False) (Kp.of_below' h) (fun _ _ h => h)
theorem TabAt.sh {B : Nat} {w : World} {bs os cs bg og cg : Nat} (t : TabAt B w bs os cs bg og cg) (k : Nat) (hk : k < 37) : w.cell? ⟨bs, os + k * 4, none⟩ = some (sv (Src.shape k).word) ∧ w.cell? ⟨bs, os + k * 4 + 1, none⟩ = some (sv (Src.shape k).parts) ∧ w.cell? ⟨bs, os + k * 4 + 2, none⟩ = some (nv (Src.shape k).low) ∧ w.cell? ⟨bs, os + k * 4 + 3, none⟩ = some (nv (Src.shape k).high) :=
 ⟨t.s k hk 0 _ rfl, t.s k hk 1 _ rfl, t.s k hk 2 _ rfl, t.s k hk 3 _ rfl⟩
theorem TabAt.sg {B : Nat} {w : World} {bs os cs bg og cg : Nat} (t : TabAt B w bs os cs bg og cg) (k : Nat) (hk : k < 13) : w.cell? ⟨bg, og + k * 3, none⟩ = some (sv (sgn k).1) ∧ w.cell? ⟨bg, og + k * 3 + 1, none⟩ = some (nv (sgn k).2.1) ∧ w.cell? ⟨bg, og + k * 3 + 2, none⟩ = some (iv (sgn k).2.2) :=
 ⟨t.g k hk 0 _ rfl, t.g k hk 1 _ rfl, t.g k hk 2 _ rfl⟩
abbrev TKC (c : Nat) (t : Str) (p lv : Nat) (k : Int) : List Value := [nv c, sv t, nv p, nv lv, iv k]
abbrev TK (c : Nat) (t : Str) (p lv : Nat) (k : Int) : Value := .agg (TKC c t p lv k).toArray
abbrev tkv (x : Nat × Str × Nat × Int) (p : Nat) : Value := TK x.1 x.2.1 p x.2.2.1 x.2.2.2
theorem TKC_len (c : Nat) (t : Str) (p lv : Nat) (k : Int) : (TKC c t p lv k).length = 5 := rfl
theorem TKC_one (c : Nat) (t : Str) (p lv : Nat) (k : Int) : (TKC c t p lv k).all (·.oneCell') = true := rfl
def Z5 : List Value := [.int .i64 0, .string ⟨#[]⟩, .int .i64 0, .int .i64 0, .int .i64 0]
def wkA (t : Str) : Nat × Str × Nat × Int := match wordKind t with | some k => (2, t, 0, k) | none => if t = [] then (2, [], 0, 7) else (3, t, 0, 0)
theorem wk_find {t : Str} {i : Nat} (hi : i < 37) (h : (Src.shape i).word = t) (hj : ∀ j, j < i → (Src.shape j).word ≠ t) : wkA t = (2, t, 0, (i : Int)) := by
 have h0 : ∀ i, i < 37 → (Src.shape i).word = [] ∨ ((wkA (Src.shape i).word).1 = 2 ∧ (wkA (Src.shape i).word).2.1 = (Src.shape i).word ∧ (wkA (Src.shape i).word).2.2.1 = 0 ∧ (wkA (Src.shape i).word).2.2.2 = (i : Int)) := by decide
 have h1 : ∀ i, i < 37 → (Src.shape i).word ≠ [] → wkA (Src.shape i).word = (2, (Src.shape i).word, 0, (i : Int)) := by
  intro i hi hn
  rcases h0 i hi with h | ⟨a, b, c, d⟩
  ·
   exact absurd h hn
  ·
   exact Prod.ext a (Prod.ext b (Prod.ext c d))
 clear h0
 have h2 : ∀ i, i < 37 → (Src.shape i).word = [] → i = 7 ∨ (7 < i ∧ (Src.shape 7).word = []) := by decide
 by_cases h0 : (Src.shape i).word = []
 ·
  rcases h2 i hi h0 with rfl | ⟨h3, h4⟩
  ·
   rw [← h, h0]; decide
  ·
   exact absurd (h4.trans (h0.symm.trans h)) (hj 7 h3)
 ·
  rw [← h]; exact h1 i hi h0
theorem wk_none {t : Str} (he : t ≠ wElse) (hj : ∀ j, j < 37 → (Src.shape j).word ≠ t) : wkA t = (3, t, 0, 0) := by
 have h36 : t ≠ wKind := fun h => hj 36 (by omega) (by rw [h]; decide)
 have h7 : t ≠ [] := fun h => hj 7 (by omega) (by rw [h]; decide)
 have hs : ∀ x ∈ starts, ∃ j, j < 37 ∧ x = (Src.shape j).word := by
  have : ∀ x ∈ starts, (List.range 37).any (fun j => decide (x = (Src.shape j).word)) = true := by decide
  intro x hx
  obtain ⟨j, h1, h2⟩ := List.any_eq_true.1 (this x hx)
  exact ⟨j, List.mem_range.1 h1, of_decide_eq_true h2⟩
 have hk : wordKind t = none := by
  unfold wordKind
  rw [if_neg he, if_neg h36, if_neg h7]
  rw [List.findIdx?_eq_none_iff.2 (fun x hx => by
   obtain ⟨j, h1, h2⟩ := hs x hx
   exact decide_eq_false (fun e => hj j h1 (h2.symm.trans e)))]
  rfl
 unfold wkA
 rw [hk]
 dsimp only
 rw [if_neg h7]
set_option maxHeartbeats 4000000 in
theorem wordOrName_any {B : Nat} (t : Str) (w : World) (ht : Tab B w) (hl : t.length ≤ 4294967296) : Calls Tryd.prog 45 #[sv t] w fun e w' => e = .returned (tkv (wkA t) 0) ∧ Below w.heap.size w w' := by
 suffices hgen : ∀ R, Hid (wkA t = R) → Calls Tryd.prog 45 #[sv t] w fun e w' => e = .returned (tkv R 0) ∧ Below w.heap.size w w' from hgen _ (Lh rfl)
 intro R HR
 obtain ⟨bs, os, cs, bg, og, cg, ht⟩ := ht
 have HT := Lh ht
 have hbs := ht.cs1
 clear ht
 have b0 := Lh (Blk.new w 62 Z5)
 have B0 := Lh ((Below.refl w.heap.size w).alloc (Nat.le_refl _) (.cells Z5.toArray 62))
 change Hid (Blk (w.alloc (.cells #[.int .i64 0, .string ⟨#[]⟩, .int .i64 0, .int .i64 0, .int .i64 0] 62)) w.heap.size 62 Z5) at b0
 change Hid (Below w.heap.size w (w.alloc (.cells #[.int .i64 0, .string ⟨#[]⟩, .int .i64 0, .int .i64 0, .int .i64 0] 62))) at B0
 have z1 := zero62
 have z2 := zero82
 obtain ⟨d, hd⟩ : ∃ d, d = decide (t = wElse) := ⟨_, rfl⟩
 have hde : (t == [101, 108, 115, 101]) = d := by rw [hd, Bool.eq_iff_iff, beq_iff_eq, decide_eq_true_iff]; exact Iff.rfl
 have HD := Lh hd
 clear hd
 go_enter Tryd.func45, Tryd.ntmps45
 go_upto_region 1 with fail
 generalize w.alloc (.cells #[.int .i64 0, .string ⟨#[]⟩, .int .i64 0, .int .i64 0, .int .i64 0] 62) = W0 at b0 B0 ⊢
 cases d with
 | true =>
  have he := of_decide_eq_true HD.out.symm
  have hR := HR.out
  have HRR := Lh (show R = (2, t, 0, -1) by rw [← hR, he]; decide)
  clear hR HR HD HT hbs he
  go_wp2_with (first | (with_reducible refine wpList_store_blk rfl 62 5 size62 (.tmp 2) (.tmp 8) rfl w.heap.size [.int .i64 2, sv t, .int .i64 0, .int .i64 0, .int .i64 (-1)] rfl rfl Z5 b0.out rfl rfl rfl ?_; intro w1 hb1 hk1))
  refine bodyPost_ret (v := .agg #[.int .i64 2, sv t, .int .i64 0, .int .i64 0, .int .i64 (-1)]) (box_res 5 size62 rfl _ _ w.heap.size _ _ rfl hb1 rfl Tryd.underlying62 rfl) rfl ⟨?_, ?_⟩
  ·
   rw [HRR.out]; rfl
  ·
   exact B0.out.trans (hk1.below (by exact B0.out.size) (by intro k hk; omega))
 | false =>
  have v1 := (HT.out.below B0.out).v1
  go_wp2_with fail
  go_loopw [11] (fun s wr => ∃ i : Nat, i ≤ 37 ∧ s = .int .i64 (i : Int) ∧ Hid (∀ j, j < i → (Src.shape j).word ≠ t) ∧ Hid (Blk wr w.heap.size 62 Z5) ∧ Hid (Below w.heap.size w wr)) (fun s _ => 37 - (intOf s).toNat)
  case atStart => exact ⟨0, Nat.zero_le _, rfl, Lh (fun j hj => absurd hj (by omega)), b0, B0⟩
  case round =>
   clear b0 B0 v1
   obtain ⟨i, hi, rfl, HJ, b1, B1⟩ := hrel
   rcases Nat.lt_or_ge i 37 with hlt | hge
   ·
    have hiI : (i : Int) < 37 := by omega
    have ht := HT.out.below B1.out
    obtain ⟨c1, c2, c3, c4⟩ := ht.sh i hlt
    have HC := Lh (ht.s i hlt)
    clear ht
    by_cases hq : (Src.shape i).word = t
    ·
     have hq2 : ((Src.shape i).word == t) = true := by rw [beq_iff_eq]; exact hq
     have HRR := Lh (HR.out.symm.trans (wk_find hlt hq HJ.out))
     clear HR HT hq hbs HD
     go_upto_region 7 with fail
     obtain ⟨W1, hW1⟩ : ∃ W1, W1 = wr.alloc (.cells #[sv (Src.shape i).word, sv (Src.shape i).parts, .int .i64 ((Src.shape i).low : Int), .int .i64 ((Src.shape i).high : Int)] 82) := ⟨_, rfl⟩
     have b2 := Lh (show Blk W1 w.heap.size 62 Z5 by rw [hW1]; exact b1.out.alloc _)
     have B2 := Lh (show Below w.heap.size w W1 by rw [hW1]; exact B1.out.alloc B1.out.size _)
     rw [← hW1]
     clear hW1 b1 B1 c1 c2 c3 c4 HC
     go_wp2_with (first | (with_reducible refine wpList_store_blk rfl 62 5 size62 (.tmp 2) (.tmp 22) rfl w.heap.size [.int .i64 2, sv t, .int .i64 0, .int .i64 0, .int .i64 (i : Int)] rfl rfl Z5 b2.out rfl rfl rfl ?_; intro w1 hb1 hk1))
     refine bodyPost_ret (v := .agg #[.int .i64 2, sv t, .int .i64 0, .int .i64 0, .int .i64 (i : Int)]) (box_res 5 size62 rfl _ _ w.heap.size _ _ rfl hb1 rfl Tryd.underlying62 rfl) rfl ⟨?_, ?_⟩
     ·
      rw [HRR.out]; rfl
     ·
      exact B2.out.trans (hk1.below (by exact B2.out.size) (by intro k hk; omega))
    ·
     have hq2 : ((Src.shape i).word == t) = false := by rw [beq_eq_false_iff_ne]; exact hq
     have HQ := Lh hq
     clear hq
     go_wp2_with fail
     go_roundw
     case rel => exact ⟨i + 1, by omega, by simp, Lh (fun j hj => by rcases Nat.lt_or_ge j i with h | h; exact HJ.out j h; rw [show j = i by omega]; exact HQ.out), Lh (b1.out.alloc _), Lh (B1.out.alloc B1.out.size _)⟩
     case measure => simp only [intOf]; omega
   ·
    obtain rfl : i = 37 := by omega
    have HRR := Lh (HR.out.symm.trans (wk_none (of_decide_eq_false HD.out.symm) HJ.out))
    clear HR HT hbs HD
    go_wp2_with (first | (with_reducible refine wpList_store_blk rfl 62 5 size62 (.tmp 2) (.tmp 25) rfl w.heap.size [.int .i64 3, sv t, .int .i64 0, .int .i64 0, .int .i64 0] rfl rfl Z5 b1.out rfl rfl rfl ?_; intro w1 hb1 hk1))
    refine bodyPost_ret (v := .agg #[.int .i64 3, sv t, .int .i64 0, .int .i64 0, .int .i64 0]) (box_res 5 size62 rfl _ _ w.heap.size _ _ rfl hb1 rfl Tryd.underlying62 rfl) rfl ⟨?_, ?_⟩
    ·
     rw [HRR.out]; rfl
    ·
     exact B1.out.trans (hk1.below (by exact B1.out.size) (by intro k hk; omega))
end Go.Proofs.YtpbhgebblpdmnaaDoor
namespace Go.Proofs.YtpbhgebblpdmnaaDoor
open Go.RowKit Wr Src
set_option linter.unusedVariables false
set_option maxRecDepth 100000
def opSign (k : Int) : Str × Nat × Int := if (signOf k).1 = 0 then ([], 0, 0) else ((signOf k).2, (signOf k).1, k)
theorem op_find {k : Int} {i : Nat} (hi : i < 13) (h1 : 0 < (sgn i).2.1) (h2 : (sgn i).2.2 = k) : opSign k = sgn i := by
 have h : ∀ i, i < 13 → 0 < (sgn i).2.1 → (opSign (sgn i).2.2).1 = (sgn i).1 ∧ (opSign (sgn i).2.2).2.1 = (sgn i).2.1 ∧ (opSign (sgn i).2.2).2.2 = (sgn i).2.2 := by decide
 obtain ⟨a, b, c⟩ := h i hi h1
 rw [← h2]
 exact Prod.ext a (Prod.ext b c)
theorem op_none {k : Int} (hj : ∀ j, j < 13 → ¬ (0 < (sgn j).2.1 ∧ (sgn j).2.2 = k)) : opSign k = ([], 0, 0) := by
 have h : ∀ j, j < 6 → 0 < (sgn j).2.1 := by decide
 have h0 := fun e => hj 0 (by omega) ⟨h 0 (by omega), e⟩
 have h1 := fun e => hj 1 (by omega) ⟨h 1 (by omega), e⟩
 have h2 := fun e => hj 2 (by omega) ⟨h 2 (by omega), e⟩
 have h3 := fun e => hj 3 (by omega) ⟨h 3 (by omega), e⟩
 have h4 := fun e => hj 4 (by omega) ⟨h 4 (by omega), e⟩
 have h5 := fun e => hj 5 (by omega) ⟨h 5 (by omega), e⟩
 have g0 : (sgn 0).2.2 = 27 := rfl
 have g1 : (sgn 1).2.2 = 28 := rfl
 have g2 : (sgn 2).2.2 = 26 := rfl
 have g3 : (sgn 3).2.2 = 29 := rfl
 have g4 : (sgn 4).2.2 = 30 := rfl
 have g5 : (sgn 5).2.2 = 31 := rfl
 have hs : signOf k = (0, []) := by
  unfold signOf
  rw [if_neg (fun e => h2 (g2.trans e.symm)), if_neg (fun e => h0 (g0.trans e.symm)), if_neg (fun e => h1 (g1.trans e.symm)), if_neg (fun e => h3 (g3.trans e.symm)), if_neg (fun e => h4 (g4.trans e.symm)), if_neg (fun e => h5 (g5.trans e.symm))]
 unfold opSign
 rw [hs, if_pos rfl]
set_option maxHeartbeats 4000000 in
theorem operationOf_any {B : Nat} (k : Int) (w : World) (ht : Tab B w) : Calls Tryd.prog 40 #[.int .i64 k] w fun e w' => e = .returned (.agg #[sv (opSign k).1, nv (opSign k).2.1, iv (opSign k).2.2]) ∧ Below w.heap.size w w' := by
 suffices hgen : ∀ R, Hid (opSign k = R) → Calls Tryd.prog 40 #[.int .i64 k] w fun e w' => e = .returned (.agg #[sv R.1, nv R.2.1, iv R.2.2]) ∧ Below w.heap.size w w' from hgen _ (Lh rfl)
 intro R HR
 obtain ⟨bs, os, cs, bg, og, cg, ht⟩ := ht
 have HT := Lh ht
 have hbs := ht.cg1
 clear ht
 have b0 := Lh (Blk.new w 75 [.string ⟨#[]⟩, .int .i64 0, .int .i64 0])
 have B0 := Lh ((Below.refl w.heap.size w).alloc (Nat.le_refl _) (.cells #[.string ⟨#[]⟩, .int .i64 0, .int .i64 0] 75))
 change Hid (Blk (w.alloc (.cells #[.string ⟨#[]⟩, .int .i64 0, .int .i64 0] 75)) w.heap.size 75 [.string ⟨#[]⟩, .int .i64 0, .int .i64 0]) at b0
 have z1 := zero75
 go_enter Tryd.func40, Tryd.ntmps40
 go_upto_region 1 with fail
 generalize w.alloc (.cells #[.string ⟨#[]⟩, .int .i64 0, .int .i64 0] 75) = W0 at b0 B0 ⊢
 have v1 := (HT.out.below B0.out).v0
 go_wp2_with fail
 go_loopw [7] (fun s wr => ∃ i : Nat, i ≤ 13 ∧ s = .int .i64 (i : Int) ∧ Hid (∀ j, j < i → ¬ (0 < (sgn j).2.1 ∧ (sgn j).2.2 = k)) ∧ Hid (Blk wr w.heap.size 75 [.string ⟨#[]⟩, .int .i64 0, .int .i64 0]) ∧ Hid (Below w.heap.size w wr)) (fun s _ => 13 - (intOf s).toNat)
 case atStart => exact ⟨0, Nat.zero_le _, rfl, Lh (fun j hj => absurd hj (by omega)), b0, B0⟩
 case round =>
  clear b0 B0 v1
  obtain ⟨i, hi, rfl, HJ, b1, B1⟩ := hrel
  rcases Nat.lt_or_ge i 13 with hlt | hge
  ·
   have hiI : (i : Int) < 13 := by omega
   have ht := HT.out.below B1.out
   obtain ⟨c1, c2, c3⟩ := ht.sg i hlt
   clear ht
   obtain ⟨x, hx⟩ : ∃ x, x = sgn i := ⟨_, rfl⟩
   rw [← hx] at c1 c2 c3
   have HX := Lh hx
   clear hx
   obtain ⟨xt, xl, xk⟩ := x
   dsimp only at c1 c2 c3
   by_cases hq : 0 < xl ∧ xk = k
   ·
    have hq1 : 0 < (xl : Int) := by omega
    have hq2 : (xk == k) = true := by rw [beq_iff_eq]; exact hq.2
    have HRR := Lh (show R = (xt, xl, xk) by rw [← HR.out, HX.out]; exact op_find hlt (by rw [← HX.out]; exact hq.1) (by rw [← HX.out]; exact hq.2))
    clear HR HT hq hbs HX
    go_upto_region 5 with fail
    obtain ⟨W1, hW1⟩ : ∃ W1, W1 = wr.alloc (.cells #[sv xt, nv xl, iv xk] 75) := ⟨_, rfl⟩
    have b2 := Lh (show Blk W1 w.heap.size 75 [.string ⟨#[]⟩, .int .i64 0, .int .i64 0] by rw [hW1]; exact b1.out.alloc _)
    have B2 := Lh (show Below w.heap.size w W1 by rw [hW1]; exact B1.out.alloc B1.out.size _)
    have b3 := Lh (show Blk W1 wr.heap.size 75 [sv xt, nv xl, iv xk] by rw [hW1]; exact Blk.new wr _ _)
    rw [← hW1]
    clear hW1 b1 B1 c1 c2 c3
    go_wp2_with (first
     | (with_reducible refine wpList_load_cells rfl 75 3 size75 (.tmp 4) rfl ⟨wr.heap.size, 0, none⟩ rfl [sv xt, nv xl, iv xk] rfl _ Tryd.underlying75 rfl b3.out.at ?_)
     | (with_reducible refine wpList_store_blk rfl 75 3 size75 (.tmp 2) (.tmp 20) rfl w.heap.size [sv xt, nv xl, iv xk] rfl rfl _ b2.out rfl rfl rfl ?_; intro w1 hb1 hk1))
    refine bodyPost_ret (v := .agg #[sv xt, nv xl, iv xk]) (box_res 3 size75 rfl _ _ w.heap.size _ _ rfl hb1 rfl Tryd.underlying75 rfl) rfl ⟨?_, ?_⟩
    ·
     rw [HRR.out]
    ·
     exact B2.out.trans (hk1.below (by exact B2.out.size) (by intro k hk; omega))
   ·
    have HQ := Lh hq
    by_cases hq1 : 0 < xl
    ·
     have hq2 : (xk == k) = false := by rw [beq_eq_false_iff_ne]; exact fun e => hq ⟨hq1, e⟩
     have hq1 : 0 < (xl : Int) := by omega
     clear hq
     go_wp2_with fail
     go_roundw
     case rel => exact ⟨i + 1, by omega, by simp, Lh (fun j hj => by rcases Nat.lt_or_ge j i with h | h; exact HJ.out j h; rw [show j = i by omega, ← HX.out]; exact HQ.out), Lh (b1.out.alloc _), Lh (B1.out.alloc B1.out.size _)⟩
     case measure => simp only [intOf]; omega
    ·
     have hq1 : ¬ 0 < (xl : Int) := by omega
     clear hq
     go_wp2_with fail
     go_roundw
     case rel => exact ⟨i + 1, by omega, by simp, Lh (fun j hj => by rcases Nat.lt_or_ge j i with h | h; exact HJ.out j h; rw [show j = i by omega, ← HX.out]; exact HQ.out), Lh (b1.out.alloc _), Lh (B1.out.alloc B1.out.size _)⟩
     case measure => simp only [intOf]; omega
  ·
   obtain rfl : i = 13 := by omega
   have HRR := Lh (HR.out.symm.trans (op_none HJ.out))
   clear HR HT hbs
   go_wp2_with (first | (with_reducible refine wpList_store_blk rfl 75 3 size75 (.tmp 2) (.tmp 22) rfl w.heap.size [.string ⟨#[]⟩, .int .i64 0, .int .i64 0] rfl rfl _ b1.out rfl rfl rfl ?_; intro w1 hb1 hk1))
   refine bodyPost_ret (v := .agg #[.string ⟨#[]⟩, .int .i64 0, .int .i64 0]) (box_res 3 size75 rfl _ _ w.heap.size _ _ rfl hb1 rfl Tryd.underlying75 rfl) rfl ⟨?_, ?_⟩
   ·
    rw [HRR.out]; rfl
   ·
    exact B1.out.trans (hk1.below (by exact B1.out.size) (by intro k hk; omega))
end Go.Proofs.YtpbhgebblpdmnaaDoor
