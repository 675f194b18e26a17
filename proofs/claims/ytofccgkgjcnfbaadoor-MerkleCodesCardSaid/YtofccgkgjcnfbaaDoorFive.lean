/-
  The five leaves of the examples: what merkle's functions return for them; the contracts at them.
  Condition: the table of the round constants is as the text lays it.
-/
import Derived.Test.YtofccgkgjcnfbaaDoorApis
set_option linter.unusedSimpArgs false
namespace Go.Proofs.YtofccgkgjcnfbaaDoor
open Go.RowKit Wr Sh
set_option linter.unusedVariables false
set_option maxRecDepth 100000
def five : List Lf := [(⟨#[97]⟩, ⟨#[49]⟩), (⟨#[99]⟩, ⟨#[50]⟩), (⟨#[100]⟩, ⟨#[51]⟩), (⟨#[102]⟩, ⟨#[52]⟩), (⟨#[103]⟩, ⟨#[53]⟩)]
theorem five_valid : validE five = 0 := by decide +kernel
theorem five_ok : okL five := ⟨by decide, by decide +kernel⟩
theorem ok_cut {L : List Lf} (h : okL L) (a b : Nat) : okL (cut L a b) := ⟨Nat.le_trans (cut_sub L a b).length_le h.1, fun x hx => h.2 x ((cut_sub L a b).subset hx)⟩
theorem half5 : half 5 = 4 := by decide +kernel
theorem half4 : half 4 = 2 := by decide +kernel
theorem half2 : half 2 = 1 := by decide +kernel
theorem sides_five (f l : Nat) : sides node (leafAt lf five) f l 0 5 = (if 5 ≤ f ∨ l ≤ 0 then [tree node (leafAt lf five) 0 5] else (if 4 ≤ f ∨ l ≤ 0 then [tree node (leafAt lf five) 0 4] else (if 2 ≤ f ∨ l ≤ 0 then [tree node (leafAt lf five) 0 2] else (if 1 ≤ f ∨ l ≤ 0 then [tree node (leafAt lf five) 0 1] else []) ++ (if 2 ≤ f ∨ l ≤ 1 then [tree node (leafAt lf five) 1 2] else [])) ++
  (if 4 ≤ f ∨ l ≤ 2 then [tree node (leafAt lf five) 2 4] else (if 3 ≤ f ∨ l ≤ 2 then [tree node (leafAt lf five) 2 3] else []) ++ (if 4 ≤ f ∨ l ≤ 3 then [tree node (leafAt lf five) 3 4] else []))) ++ (if 5 ≤ f ∨ l ≤ 4 then [tree node (leafAt lf five) 4 5] else [])) := by
 have one : ∀ a, sides node (leafAt lf five) f l a (a + 1) = if a + 1 ≤ f ∨ l ≤ a then [tree node (leafAt lf five) a (a + 1)] else [] := fun a => by
  split
  ·
   rename_i h; exact sides_told _ _ h
  ·
   rename_i h; exact sides_one _ _ h (by omega)
 have two : ∀ a, sides node (leafAt lf five) f l a (a + 2) = if a + 2 ≤ f ∨ l ≤ a then [tree node (leafAt lf five) a (a + 2)] else sides node (leafAt lf five) f l a (a + 1) ++ sides node (leafAt lf five) f l (a + 1) (a + 1 + 1) := fun a => by
  split
  ·
   rename_i h; exact sides_told _ _ h
  ·
   rename_i h; rw [sides_split _ _ h (by omega), show a + 2 - a = 2 by omega, half2]
 have four : sides node (leafAt lf five) f l 0 4 = if 4 ≤ f ∨ l ≤ 0 then [tree node (leafAt lf five) 0 4] else sides node (leafAt lf five) f l 0 (0 + 2) ++ sides node (leafAt lf five) f l 2 (2 + 2) := by
  split
  ·
   rename_i h; exact sides_told _ _ h
  ·
   rename_i h; rw [sides_split _ _ h (by omega), show 4 - 0 = 4 from rfl, half4]
 have all : sides node (leafAt lf five) f l 0 5 = if 5 ≤ f ∨ l ≤ 0 then [tree node (leafAt lf five) 0 5] else sides node (leafAt lf five) f l 0 4 ++ sides node (leafAt lf five) f l 4 (4 + 1) := by
  split
  ·
   rename_i h; exact sides_told _ _ h
  ·
   rename_i h; rw [sides_split _ _ h (by omega), show 5 - 0 = 5 from rfl, half5]
 rw [all, four, two 0, two 2, one 4, one 0, one 1, one 2, one 3]
theorem shown_five (f l : Nat) : (shown node lf top five f l).sides = sides node (leafAt lf five) f l 0 5 := by rw [shown_sides]; rfl
def pC : Pf := shown node lf top five 1 2
def pE : Pf := shown node lf top five 2 4
def pH : Pf := shown node lf top five 4 5
def pR : Pf := shown node lf top five 0 4
theorem cbc : cb five ⟨#[99]⟩ = 1 := by decide +kernel
theorem cbe : cb five ⟨#[101]⟩ = 3 := by decide +kernel
theorem cbh : cb five ⟨#[104]⟩ = 5 := by decide +kernel
theorem cbf : cb five ⟨#[102]⟩ = 3 := by decide +kernel
theorem hitc : hitB five ⟨#[99]⟩ = true := by decide +kernel
theorem hite : hitB five ⟨#[101]⟩ = false := by decide +kernel
theorem hith : hitB five ⟨#[104]⟩ = false := by decide +kernel
theorem slfc : sl ⟨#[102]⟩ ⟨#[99]⟩ = false := by decide +kernel
theorem prC : (proveR node lf top five ⟨#[99]⟩).1 = pC := by unfold proveR; rw [if_pos five_valid, if_pos hitc, cbc]; rfl
theorem prE : (proveR node lf top five ⟨#[101]⟩).1 = pE := by unfold proveR; rw [if_pos five_valid, if_neg (by rw [hite]; simp), cbe]; rfl
theorem prH : (proveR node lf top five ⟨#[104]⟩).1 = pH := by unfold proveR; rw [if_pos five_valid, if_neg (by rw [hith]; simp), cbh]; rfl
theorem prR : rangeR node lf top five ⟨#[99]⟩ ⟨#[102]⟩ = (pR, 0) := by unfold rangeR; rw [if_pos five_valid, if_neg (by rw [slfc]; simp), cbc, cbf]; rfl
theorem siC : pC.sides.length = 3 := by unfold pC; rw [shown_five, sides_five]; simp
theorem siE : pE.sides.length = 2 := by unfold pE; rw [shown_five, sides_five]; simp
theorem siH : pH.sides.length = 1 := by unfold pH; rw [shown_five, sides_five]; simp
theorem siR : pR.sides.length = 1 := by unfold pR; rw [shown_five, sides_five]; simp
theorem rootF : rootR five = rootD node lf top five := by unfold rootR; rw [if_pos five_valid]
theorem chC : checkR node lf top (rootR five) ⟨#[99]⟩ pC = (⟨#[50]⟩, true, 0) := by
 rw [rootF, ← prC, check_prove node lf top five _ five_valid, if_pos hitc, cbc]; rfl
theorem chE : checkR node lf top (rootR five) ⟨#[101]⟩ pE = (ByteArray.empty, false, 0) := by
 rw [rootF, ← prE, check_prove node lf top five _ five_valid, if_neg (by rw [hite]; simp)]
theorem undE : underB node lf top (rootD node lf top five) pE = true := under_shown node lf top five 2 4 five_valid (by decide) (by decide) (by decide)
theorem chD : checkR node lf top (rootR five) ⟨#[100]⟩ pE = (⟨#[51]⟩, true, 0) := by
 have h1 : hitB pE.leaves ⟨#[100]⟩ = true := by show hitB (cut five 2 4) ⟨#[100]⟩ = true; decide +kernel
 have h2 : cb pE.leaves ⟨#[100]⟩ = 0 := by show cb (cut five 2 4) ⟨#[100]⟩ = 0; decide +kernel
 unfold checkR
 rw [rootF, if_pos undE, if_pos h1, h2]; rfl
theorem chX : (checkR node lf top (rootR five) ⟨#[99]⟩ pE).2.2 = 17 := by
 have h1 : hitB pE.leaves ⟨#[99]⟩ = false := by show hitB (cut five 2 4) ⟨#[99]⟩ = false; decide +kernel
 have h2 : cb pE.leaves ⟨#[99]⟩ = 0 := by show cb (cut five 2 4) ⟨#[99]⟩ = 0; decide +kernel
 unfold checkR
 rw [rootF, if_pos undE, if_neg (by rw [h1]; simp), h2, if_neg]
 show ¬ bndB 2 5 (cut five 2 4).length 0 0 = true
 decide +kernel
theorem chR : checkRangeR node lf top (rootR five) ⟨#[99]⟩ ⟨#[102]⟩ pR = (cut five 1 3, 0) := by
 have := check_range node lf top five ⟨#[99]⟩ ⟨#[102]⟩ five_valid slfc
 rw [prR, cbc, cbf] at this
 rw [rootF]; exact this
theorem build5 : ∀ W : World, (Instr.buildSlice 33 5 #[(0, .agg #[.string ⟨#[97]⟩, .string ⟨#[49]⟩]), (1, .agg #[.string ⟨#[99]⟩, .string ⟨#[50]⟩]), (2, .agg #[.string ⟨#[100]⟩, .string ⟨#[51]⟩]), (3, .agg #[.string ⟨#[102]⟩, .string ⟨#[52]⟩]), (4, .agg #[.string ⟨#[103]⟩, .string ⟨#[53]⟩])]).run Tryd.prog W = .ok (.slice (some ⟨W.heap.size, 0, none⟩) 5 5) (W.alloc (.cells (LC five).toArray 41)) := by
 intro W; kernel_rfl
set_option maxHeartbeats 1000000 in
theorem five_any (w : World) : Calls Tryd.prog 53 #[] w fun e w' => e = .returned (.slice (some ⟨w.heap.size, 0, none⟩) 5 5) ∧ w' = w.alloc (.cells (LC five).toArray 41) := by
 have b5 := build5
 go_enter Tryd.func53, Tryd.ntmps53
 go_wp2_with fail
 go_ret
 exact ⟨rfl, rfl⟩
structure Bx (W : World) (g : Nat) (p : Pf) (A1 A2 : Option Addr) (n m c1 c2 : Nat) : Prop where
 blk : Blk W g 50 (PR p.first p.size (.slice A1 n c1) (.slice A2 m c2))
 at_ : PfAt W W.heap.size p A1 A2 c1 c2
theorem Bx.below {W W' : World} {g : Nat} {p : Pf} {A1 A2 : Option Addr} {n m c1 c2 : Nat} (h : Bx W g p A1 A2 n m c1 c2) (hb : Below W.heap.size W W') : Bx W' g p A1 A2 n m c1 c2 :=
 ⟨h.blk.below hb h.blk.lt, (h.at_.r1.below hb).more hb.size, (h.at_.r2.below hb).more hb.size, h.at_.k1, h.at_.k2, h.at_.okl, h.at_.oks, h.at_.oki⟩
theorem pfAt_of {b : Nat} {W : World} {p : Pf} {v : Value} (h : ProofV b W p v) (hl : okL p.leaves) (hs : p.sides.length ≤ 1073741824) (hi : okInt p.first ∧ okInt p.size) :
  ∃ A1 c1 A2 c2, v = .agg (PR p.first p.size (.slice A1 p.leaves.length c1) (.slice A2 p.sides.length c2)).toArray ∧ PfAt W W.heap.size p A1 A2 c1 c2 := by
 obtain ⟨A1, c1, A2, c2, e, h1, h2, h3, h4, _, h7⟩ := h
 exact ⟨A1, c1, A2, c2, e, h3, h4, h1, h2, hl, ⟨hs, h7⟩, hi⟩
end Go.Proofs.YtofccgkgjcnfbaaDoor
