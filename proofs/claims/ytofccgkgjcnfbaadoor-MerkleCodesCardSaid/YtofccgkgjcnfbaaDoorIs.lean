/-
  The contract of merkle's isUnder.
  Conditions: at most 2^30 leaves and sides, keys and values of at most 2^30 bytes; the table of the round constants is as the text lays it.
-/
import Derived.Test.YtofccgkgjcnfbaaDoorZ
import Derived.Test.YtofccgkgjcnfbaaDoorUnd
import Derived.Test.YtofccgkgjcnfbaaDoorValids
import Derived.Test.YtofccgkgjcnfbaaDoorEqD
set_option linter.unusedSimpArgs false
namespace Go.Proofs.YtofccgkgjcnfbaaDoor
open Go.RowKit Wr Sh
set_option linter.unusedVariables false
set_option maxRecDepth 100000
section
variable {Bl B gv gp ge g8 gu : Nat} {A1 A2 : Option Addr} {L : List Lf} {S : List (List UInt8)} {c1 c2 first last N : Nat} {sz : Int} {u : Nat} {W W' : World}
theorem toldUnder (pl : PlU Bl B gv gp ge g8 gu) (hL : okL L) (hN : N ≤ 1073741824) (hf : first ≤ 1073741824) (hla : last = first + L.length) (hlb : last ≤ 1073741824) (hm : S.length ≤ 1073741824) (hS : ∀ d ∈ S, d.length = 16) :
  Told 87 #[.pointer (some ⟨gp, 0, none⟩), .pointer (some ⟨ge, 0, none⟩), .pointer (some ⟨g8, 0, none⟩), .pointer (some ⟨gu, 0, none⟩)] (gUnder first last (fun i => leafAt lf L (i - first)) S) N B (InvU Bl B gv gp ge g8 gu A1 A2 L S c1 c2 first last sz) (fun u a => u ≤ a) where
 enters := enters_of Tryd.func87 (by kernel_rfl) rfl
 call := by
  intro s O W a b hi hps hab hbN
  obtain ⟨hO, hSt⟩ := hi
  by_cases hc : first < b ∧ a < last
  ·
   have e : gUnder first last (fun i => leafAt lf L (i - first)) S s a b = (if 1 < b - a then (List.replicate 16 0, false) else (leafAt lf L (a - first), true), s) := by unfold gUnder; rw [if_pos hc]
   rw [e]
   refine (under_in pl hL a b W hab (by omega) hc.1 hc.2 hf hla hlb hSt _ _ (Lh rfl)).mono ?_
   rintro e W' ⟨rfl, hB⟩
   exact ⟨rfl, O, ⟨hO, hSt.below pl hB⟩, hB.os, hB.tape, hB.output, hB.size, fun k hk _ => hB.block k hk, fun k hk => .inl hk⟩
  ·
   have e : gUnder first last (fun i => leafAt lf L (i - first)) S s a b = ((if s + 1 > S.length then List.replicate 16 0 else S.getD s [], true), s + 1) := by unfold gUnder; rw [if_neg hc]
   rw [e]
   refine (under_out pl a b W hab (by omega) (by omega) hf hlb hps hm hS hSt _ (Lh rfl)).mono ?_
   rintro e W' ⟨rfl, hSt', hF⟩
   exact ⟨rfl, fun k => k = gu, ⟨fun _ => Iff.rfl, hSt'⟩, hF.os, hF.tape, hF.output, hF.size, fun k hk ho => hF.keep k hk (fun h => ho ((hO k).2 h)), fun k hk => (hF.own k hk).imp_left (hO k).2⟩
 next := by
  intro s a b hp hab ht
  unfold gUnder at ht ⊢
  split
  ·
   simp; omega
  ·
   simp; omega
 same := by
  intro s a b hp hab ht
  unfold gUnder at ht ⊢
  split
  ·
   exact hp
  ·
   rename_i hc; rw [if_neg hc] at ht; cases ht
 one := by
  intro s a b h
  unfold gUnder
  split
  ·
   simp only; rw [if_neg (by omega)]
  ·
   rfl
 len := by
  intro s a b; unfold gUnder
  split
  ·
   simp only; split
   ·
    rfl
   ·
    exact dof_len _ _
  ·
   simp only; split
   ·
    rfl
   ·
    rename_i h
    rw [List.getD_eq_getElem?_getD, List.getElem?_eq_getElem (by omega)]
    exact hS _ (List.getElem_mem _)
 stay := fun s O W W' hi hs hk => by
  obtain ⟨hO, hSt⟩ := hi
  exact ⟨hO, hSt.keep pl hs ((hk gu hSt.u.lt (.inr ((hO gu).2 rfl))).trans hSt.u) (fun k h1 h2 _ => hk k h1 (.inl h2))⟩
 lt := fun s O W hi => by
  obtain ⟨hO, hSt⟩ := hi
  exact ⟨hSt.size, fun k hk => by rw [(hO k).1 hk]; exact hSt.u.lt⟩
 tab := fun s O W hi => hi.2.leaf.tab
end
structure PfAt (W : World) (B : Nat) (p : Pf) (A1 A2 : Option Addr) (c1 c2 : Nat) : Prop where
 r1 : Rd W B A1 (LC p.leaves)
 r2 : Rd W B A2 (B8 p.sides.flatten)
 k1 : p.leaves.length ≤ c1 ∧ (A1 = none → c1 = 0)
 k2 : p.sides.length ≤ c2 ∧ (A2 = none → c2 = 0)
 okl : okL p.leaves
 oks : p.sides.length ≤ 1073741824 ∧ ∀ d ∈ p.sides, d.length = 16
 oki : okInt p.first ∧ okInt p.size
set_option maxHeartbeats 8000000 in
theorem under_any (root : List UInt8) (p : Pf) (A1 A2 : Option Addr) (c1 c2 : Nat) (w : World) (hroot : root.length = 16) (hp : PfAt w w.heap.size p A1 A2 c1 c2) (ht : Tab 1 w) :
  Calls Tryd.prog 59 #[.agg (B8 root).toArray, .agg #[.int .i64 p.first, .int .i64 p.size, .slice A1 p.leaves.length c1, .slice A2 p.sides.length c2]] w fun e w' => e = .returned (.bool (underB node lf top root p)) ∧ Below w.heap.size w w' := by
 obtain ⟨f, sz, L, S⟩ := p
 obtain ⟨hr1, hr2, hk1, hk2, hokl, hoks, ⟨⟨hf1, hf2⟩, hs1, hs2⟩⟩ := hp
 dsimp only at *
 have hln := hokl.1
 have hlm := hoks.1
 obtain ⟨W1, hW1⟩ : ∃ W, W = (w.alloc (.cells (B8 root).toArray 29)).alloc (.cells #[.int .i64 f, .int .i64 sz, .slice A1 L.length c1, .slice A2 S.length c2] 50) := ⟨_, rfl⟩
 have HB := Lh (((Below.refl w.heap.size w).alloc (Nat.le_refl _) (.cells (B8 root).toArray 29)).alloc (by simp) (.cells #[.int .i64 f, .int .i64 sz, .slice A1 L.length c1, .slice A2 S.length c2] 50))
 have HL := Lh hokl
 have HS := Lh hoks
 have HR1 := Lh hr1
 have HR2 := Lh hr2
 have HT := Lh ht
 have HRo := Lh hroot
 have HW := Lh hW1
 have HK := Lh (And.intro hk1 hk2)
 clear hr1 hr2 hk1 hk2 hokl hoks ht hroot hW1
 have bad : ∀ (h : formP ⟨f, sz, L, S⟩ = false), underB node lf top root ⟨f, sz, L, S⟩ = false := fun h => by unfold underB; rw [h]; rfl
 by_cases c1' : sz < 0
 ·
  rw [bad (by unfold formP; simp; omega)]
  clear bad
  go_enter Tryd.func59, Tryd.ntmps59
  go_wp2_with fail
  go_ret
  exact ⟨rfl, HB.out⟩
 by_cases c2' : 4096 < sz
 ·
  rw [bad (by unfold formP; simp; omega)]
  clear bad
  go_enter Tryd.func59, Tryd.ntmps59
  go_wp2_with fail
  go_ret
  exact ⟨rfl, HB.out⟩
 by_cases c3' : f < 0
 ·
  rw [bad (by unfold formP; simp; omega)]
  clear bad
  go_enter Tryd.func59, Tryd.ntmps59
  go_wp2_with fail
  go_ret
  exact ⟨rfl, HB.out⟩
 by_cases c4' : sz - (L.length : Int) < f
 ·
  rw [bad (by unfold formP; simp; omega)]
  clear bad
  go_enter Tryd.func59, Tryd.ntmps59
  go_wp2_with fail
  go_ret
  exact ⟨rfl, HB.out⟩
 by_cases c5' : 0 < sz ∧ L.length = 0
 ·
  obtain ⟨c51, c52⟩ := c5'
  have c53 : ((L.length : Int) == 0) = true := by rw [beq_iff_eq]; omega
  rw [bad (by unfold formP; rw [decide_eq_true c51, decide_eq_true c52]; simp)]
  clear bad c52
  go_enter Tryd.func59, Tryd.ntmps59
  go_wp2_with fail
  go_ret
  exact ⟨rfl, HB.out⟩
 have HV := Lh (valid_any A1 L c1 W1 HL.out (by rw [HW.out]; exact (HR1.out.below HB.out).more (by simp; omega)))
 obtain ⟨V, hV⟩ : ∃ V, V = validE L := ⟨_, rfl⟩
 rw [← hV] at HV
 have HV' := Lh hV
 by_cases c6' : V = 0
 ·
  obtain ⟨F, rfl⟩ : ∃ F : Nat, f = (F : Int) := ⟨f.toNat, by omega⟩
  obtain ⟨Z, rfl⟩ : ∃ Z : Nat, sz = (Z : Int) := ⟨sz.toNat, by omega⟩
  subst c6'
  have HF := Lh (show formP ⟨(F : Int), (Z : Int), L, S⟩ = true by
   unfold formP
   simp only [Bool.and_eq_true, decide_eq_true_eq, Bool.not_eq_true', Bool.and_eq_false_iff, decide_eq_false_iff_not]
   exact ⟨⟨⟨by omega, by omega, by omega, by omega⟩, by omega⟩, hV.symm⟩)
  have e0 := HW.out
  have HB1 := Lh (show Below w.heap.size w W1 by rw [e0]; exact HB.out)
  have P1 := Lh (show Blk W1 (w.heap.size + 1) 50 (PR (F : Int) (Z : Int) (.slice A1 L.length c1) (.slice A2 S.length c2)) by rw [e0]; exact Blk.newAt _ _ 50 (PR (F : Int) (Z : Int) (.slice A1 L.length c1) (.slice A2 S.length c2)) (by simp))
  have R1 := Lh (show Blk W1 w.heap.size 29 (B8 root) by rw [e0]; exact (Blk.new w 29 (B8 root)).alloc _)
  clear e0 bad hV
  have main : ∀ w2, Below W1.heap.size W1 w2 → True := fun _ _ => trivial
  by_cases c7 : (0 : Int) < (Z : Int)
  ·
   have c8 : ((L.length : Int) == 0) = false := by rw [beq_eq_false_iff_ne]; omega
   go_enter Tryd.func59, Tryd.ntmps59
   go_upto_region 5 with (go_at_call 15; rw [← HW.out]; refine HV.out.mono ?_; rintro e w2 ⟨rfl, hb2⟩; have HB2 := Lh hb2; clear hb2)
   have hb2 := HB2.out
   have hl1 := HB1.out.size
   have hl2 := hb2.size
   have hp1 := P1.out.lt
   have hT1 := HT.out.1
   have P2 := Lh (P1.out.below hb2 P1.out.lt)
   have R2 := Lh (R1.out.below hb2 R1.out.lt)
   have e0 : w2.cell? ⟨w.heap.size + 1, 0, none⟩ = some (.int .i64 (F : Int)) := (P2.out.cell 0).trans rfl
   have e1 : w2.cell? ⟨w.heap.size + 1, 1, none⟩ = some (.int .i64 (Z : Int)) := (P2.out.cell 1).trans rfl
   have e2 : w2.cell? ⟨w.heap.size + 1, 2, none⟩ = some (.slice A1 L.length c1) := (P2.out.cell 2).trans rfl
   obtain ⟨W4, hW4⟩ : ∃ W, W = (((w2.alloc (.cells #[.int .i64 ((F : Int) + (L.length : Int))] 3)).alloc (.cells #[.int .i64 0] 3)).alloc (.cells #[.slice A1 L.length c1] 33)).alloc (.cells #[.func (.func 78) #[] #[.pointer (some ⟨w2.heap.size + 1 + 1, 0, none⟩)]] 100) := ⟨_, rfl⟩
   have hb4 : Below w2.heap.size w2 W4 := by rw [hW4]; exact ((((Below.refl _ _).alloc (Nat.le_refl _) _).alloc (by simp) _).alloc (by simp; omega) _).alloc (by simp; omega) _
   have hsz4 : W4.heap.size = w2.heap.size + 1 + 1 + 1 + 1 := by rw [hW4]; simp
   have hbw4 : Below w.heap.size w W4 := HB1.out.trans ((hb2.mono (by omega)).trans (hb4.mono (by omega)))
   have pl : PlU w.heap.size (w2.heap.size + 4) (w2.heap.size + 1 + 1) (w.heap.size + 1) w2.heap.size (w2.heap.size + 1 + 1 + 1) (w2.heap.size + 1) := ⟨hT1, by omega, by omega, by omega, by omega, by omega, by omega⟩
   have S0 : StU w.heap.size (w2.heap.size + 4) (w2.heap.size + 1 + 1) (w.heap.size + 1) w2.heap.size (w2.heap.size + 1 + 1 + 1) (w2.heap.size + 1) A1 A2 L S c1 c2 F (F + L.length) (Z : Int) 0 W4 := {
    size := by omega
    leaf := {
     cell := by rw [hW4]; exact (((Blk.newAt _ _ 33 [.slice A1 L.length c1] (by simp)).alloc _).cell 0).trans rfl
     rd := HR1.out.below hbw4
     tab := HT.out.below hbw4 hT1 }
    p := P2.out.below hb4 P2.out.lt
    rd := HR2.out.below hbw4
    ce := by rw [hW4]; exact (((((Blk.new w2 3 [.int .i64 ((F : Int) + (L.length : Int))]).alloc _).alloc _).alloc _).cell 0).trans (by rw [Int.natCast_add]; rfl)
    c8 := by rw [hW4]; exact ((Blk.newAt _ _ 100 [.func (.func 78) #[] #[.pointer (some ⟨w2.heap.size + 1 + 1, 0, none⟩)]] (by simp)).cell 0).trans rfl
    u := by rw [hW4]; exact ((Blk.newAt _ _ 3 [.int .i64 0] (by simp)).alloc _).alloc _ }
   obtain ⟨R, hR⟩ : ∃ R, R = (runP node lf top ⟨(F : Int), (Z : Int), L, S⟩).1 := ⟨_, rfl⟩
   obtain ⟨U, hU⟩ : ∃ U, U = (runP node lf top ⟨(F : Int), (Z : Int), L, S⟩).2 := ⟨_, rfl⟩
   have hrun : runP node lf top ⟨(F : Int), (Z : Int), L, S⟩ = rootRun node top (gUnder F (F + L.length) (fun i => leafAt lf L (i - F)) S) 0 Z := by unfold runP; simp only [Int.toNat_natCast]
   have told := toldUnder (N := Z) (first := F) (last := F + L.length) (L := L) (S := S) (A1 := A1) (A2 := A2) (c1 := c1) (c2 := c2) (sz := (Z : Int)) pl HL.out (by omega) (by omega) rfl (by omega) HS.out.1 HS.out.2
   have HC := Lh (rootOf_any told (by omega) Z 0 (fun k => k = w2.heap.size + 1) W4 (Nat.le_refl _) ⟨fun _ => Iff.rfl, S0⟩ (Nat.zero_le _))
   have HRl := Lh (show R.length = 16 by rw [hR, hrun]; exact rootRun_len told _ _)
   rw [← hrun, ← hR, ← hU] at HC
   have HUB := Lh (show underB node lf top root ⟨(F : Int), (Z : Int), L, S⟩ = (decide (U = S.length) && decide (R = root)) by unfold underB; rw [HF.out, ← hR, ← hU]; rfl)
   have HW4 := Lh hW4
   have HS4 := Lh hsz4
   have B4 := Lh hbw4
   have R4 := Lh (R2.out.below hb4 R2.out.lt)
   have PL := Lh pl
   have hadd : IntKind.i64.wrap ((F : Int) + (L.length : Int)) = (F : Int) + (L.length : Int) := IntWalk.i64_in _ (by omega)
   have g2 : ((w2.alloc (.cells #[.int .i64 ((F : Int) + (L.length : Int))] 3)).alloc (.cells #[.int .i64 0] 3)).cell? ⟨w.heap.size + 1, 2, none⟩ = some (.slice A1 L.length c1) := (((P2.out.alloc _).alloc _).cell 2).trans rfl
   have g1 : ((((w2.alloc (.cells #[.int .i64 ((F : Int) + (L.length : Int))] 3)).alloc (.cells #[.int .i64 0] 3)).alloc (.cells #[.slice A1 L.length c1] 33)).alloc (.cells #[.func (.func 78) #[] #[.pointer (some ⟨w2.heap.size + 1 + 1, 0, none⟩)]] 100)).cell? ⟨w.heap.size + 1, 1, none⟩ = some (.int .i64 (Z : Int)) := (((((P2.out.alloc _).alloc _).alloc _).alloc _).cell 1).trans rfl
   clear hW4 hb4 hsz4 hbw4 S0 pl told hR hU hrun hb2 HV hT1
   go_wp2_with (first
    | (go_at_call 51; refine (digestOf_any A1 L.length c1 _).mono ?_; rintro e w3 ⟨rfl, rfl⟩))
   rw [← HW4.out]
   refine HC.out.mono ?_; rintro e w5 ⟨rfl, O5, ⟨hO5, S5'⟩, F5⟩
   have HS5 := Lh S5'
   have b5 := F5
   obtain ⟨W6, hW6⟩ : ∃ W, W = (w5.alloc (.cells Z16.toArray 29)).setRow w5.heap.size (B8 R).toArray := ⟨_, rfl⟩
   have hb6 : Below w5.heap.size w5 W6 := by rw [hW6]; exact belowRow ((Below.refl _ _).alloc (Nat.le_refl _) _) (Nat.le_refl _) _
   have S6 := Lh (HS5.out.below PL.out hb6)
   have D6 := Lh (show Blk W6 w5.heap.size 29 (B8 R) by rw [hW6]; exact (Blk.new w5 29 Z16).row _)
   have R5 := F5.blk R4.out (by omega)
   have R6 := Lh (R5.below hb6 R5.lt)
   have BF := Lh (show Below w.heap.size w W6 from (B4.out.trans ⟨F5.os, F5.tape, F5.output, F5.size, fun k hk => F5.keep k (by have := HS4.out; omega) (by omega)⟩).trans (hb6.mono (by have := F5.size; have := HS4.out; omega)))
   have q0 : W6.cell? ⟨w2.heap.size + 1, 0, none⟩ = some (.int .i64 (U : Int)) := (S6.out.u.cell 0).trans rfl
   have q3 : W6.cell? ⟨w.heap.size + 1, 3, none⟩ = some (.slice A2 S.length c2) := (S6.out.p.cell 3).trans rfl
   have L6 := Lh D6.out.at
   have L7 := Lh R6.out.at
   have HW6 := Lh hW6
   have hE := fun W => eql29 R root HRl.out HRo.out W
   have hZ := hZ16
   clear S5' F5 b5 hW6 hb6 R5 e0 e1 e2 g1 g2 HC hadd
   by_cases hu : U = S.length
   ·
    have hu1 : ((U : Int) == (S.length : Int)) = true := by rw [beq_iff_eq]; omega
    have HX := Lh (show (decide (U = S.length) && decide (R = root)) = (R == root) by rw [decide_eq_true hu, Bool.true_and, Bool.eq_iff_iff]; simp)
    clear hu
    go_wp2_with (first
     | (with_reducible refine wpList_store_row rfl 29 (.tmp 8) (.tmp 60) rfl w5.heap.size (B8 R).toArray rfl rfl 29 _ (heap_alloc_new w5 _) (size29' _ HRl.out) (Z16_size _ HRl.out) (one8 _) ?_; rw [← HW6.out])
     | (refine wpList_load_guarded 29 (.tmp 8) rfl ⟨w5.heap.size, 0, none⟩ rfl (by rfl) (B8 R) (.array 16 5) L6.out Tryd.underlying29 rfl (size29 _ HRl.out) ?_)
     | (refine wpList_load_guarded 29 (.tmp 2) rfl ⟨w.heap.size, 0, none⟩ rfl (by rfl) (B8 root) (.array 16 5) L7.out Tryd.underlying29 rfl (size29 _ HRo.out) ?_))
    go_ret
    exact ⟨by rw [HUB.out, HX.out]; try rfl, BF.out⟩
   ·
    have hu1 : ((U : Int) == (S.length : Int)) = false := by rw [beq_eq_false_iff_ne]; omega
    have HX := Lh (show (decide (U = S.length) && decide (R = root)) = false by rw [decide_eq_false hu, Bool.false_and])
    clear hu
    go_wp2_with (first
     | (with_reducible refine wpList_store_row rfl 29 (.tmp 8) (.tmp 60) rfl w5.heap.size (B8 R).toArray rfl rfl 29 _ (heap_alloc_new w5 _) (size29' _ HRl.out) (Z16_size _ HRl.out) (one8 _) ?_; rw [← HW6.out]))
    go_ret
    exact ⟨by rw [HUB.out, HX.out]; try rfl, BF.out⟩
  ·
   go_enter Tryd.func59, Tryd.ntmps59
   go_upto_region 5 with (go_at_call 15; rw [← HW.out]; refine HV.out.mono ?_; rintro e w2 ⟨rfl, hb2⟩; have HB2 := Lh hb2; clear hb2)
   have hb2 := HB2.out
   have hl1 := HB1.out.size
   have hl2 := hb2.size
   have hp1 := P1.out.lt
   have hT1 := HT.out.1
   have P2 := Lh (P1.out.below hb2 P1.out.lt)
   have R2 := Lh (R1.out.below hb2 R1.out.lt)
   have e0 : w2.cell? ⟨w.heap.size + 1, 0, none⟩ = some (.int .i64 (F : Int)) := (P2.out.cell 0).trans rfl
   have e1 : w2.cell? ⟨w.heap.size + 1, 1, none⟩ = some (.int .i64 (Z : Int)) := (P2.out.cell 1).trans rfl
   have e2 : w2.cell? ⟨w.heap.size + 1, 2, none⟩ = some (.slice A1 L.length c1) := (P2.out.cell 2).trans rfl
   obtain ⟨W4, hW4⟩ : ∃ W, W = (((w2.alloc (.cells #[.int .i64 ((F : Int) + (L.length : Int))] 3)).alloc (.cells #[.int .i64 0] 3)).alloc (.cells #[.slice A1 L.length c1] 33)).alloc (.cells #[.func (.func 78) #[] #[.pointer (some ⟨w2.heap.size + 1 + 1, 0, none⟩)]] 100) := ⟨_, rfl⟩
   have hb4 : Below w2.heap.size w2 W4 := by rw [hW4]; exact ((((Below.refl _ _).alloc (Nat.le_refl _) _).alloc (by simp) _).alloc (by simp; omega) _).alloc (by simp; omega) _
   have hsz4 : W4.heap.size = w2.heap.size + 1 + 1 + 1 + 1 := by rw [hW4]; simp
   have hbw4 : Below w.heap.size w W4 := HB1.out.trans ((hb2.mono (by omega)).trans (hb4.mono (by omega)))
   have pl : PlU w.heap.size (w2.heap.size + 4) (w2.heap.size + 1 + 1) (w.heap.size + 1) w2.heap.size (w2.heap.size + 1 + 1 + 1) (w2.heap.size + 1) := ⟨hT1, by omega, by omega, by omega, by omega, by omega, by omega⟩
   have S0 : StU w.heap.size (w2.heap.size + 4) (w2.heap.size + 1 + 1) (w.heap.size + 1) w2.heap.size (w2.heap.size + 1 + 1 + 1) (w2.heap.size + 1) A1 A2 L S c1 c2 F (F + L.length) (Z : Int) 0 W4 := {
    size := by omega
    leaf := {
     cell := by rw [hW4]; exact (((Blk.newAt _ _ 33 [.slice A1 L.length c1] (by simp)).alloc _).cell 0).trans rfl
     rd := HR1.out.below hbw4
     tab := HT.out.below hbw4 hT1 }
    p := P2.out.below hb4 P2.out.lt
    rd := HR2.out.below hbw4
    ce := by rw [hW4]; exact (((((Blk.new w2 3 [.int .i64 ((F : Int) + (L.length : Int))]).alloc _).alloc _).alloc _).cell 0).trans (by rw [Int.natCast_add]; rfl)
    c8 := by rw [hW4]; exact ((Blk.newAt _ _ 100 [.func (.func 78) #[] #[.pointer (some ⟨w2.heap.size + 1 + 1, 0, none⟩)]] (by simp)).cell 0).trans rfl
    u := by rw [hW4]; exact ((Blk.newAt _ _ 3 [.int .i64 0] (by simp)).alloc _).alloc _ }
   obtain ⟨R, hR⟩ : ∃ R, R = (runP node lf top ⟨(F : Int), (Z : Int), L, S⟩).1 := ⟨_, rfl⟩
   obtain ⟨U, hU⟩ : ∃ U, U = (runP node lf top ⟨(F : Int), (Z : Int), L, S⟩).2 := ⟨_, rfl⟩
   have hrun : runP node lf top ⟨(F : Int), (Z : Int), L, S⟩ = rootRun node top (gUnder F (F + L.length) (fun i => leafAt lf L (i - F)) S) 0 Z := by unfold runP; simp only [Int.toNat_natCast]
   have told := toldUnder (N := Z) (first := F) (last := F + L.length) (L := L) (S := S) (A1 := A1) (A2 := A2) (c1 := c1) (c2 := c2) (sz := (Z : Int)) pl HL.out (by omega) (by omega) rfl (by omega) HS.out.1 HS.out.2
   have HC := Lh (rootOf_any told (by omega) Z 0 (fun k => k = w2.heap.size + 1) W4 (Nat.le_refl _) ⟨fun _ => Iff.rfl, S0⟩ (Nat.zero_le _))
   have HRl := Lh (show R.length = 16 by rw [hR, hrun]; exact rootRun_len told _ _)
   rw [← hrun, ← hR, ← hU] at HC
   have HUB := Lh (show underB node lf top root ⟨(F : Int), (Z : Int), L, S⟩ = (decide (U = S.length) && decide (R = root)) by unfold underB; rw [HF.out, ← hR, ← hU]; rfl)
   have HW4 := Lh hW4
   have HS4 := Lh hsz4
   have B4 := Lh hbw4
   have R4 := Lh (R2.out.below hb4 R2.out.lt)
   have PL := Lh pl
   have hadd : IntKind.i64.wrap ((F : Int) + (L.length : Int)) = (F : Int) + (L.length : Int) := IntWalk.i64_in _ (by omega)
   have g2 : ((w2.alloc (.cells #[.int .i64 ((F : Int) + (L.length : Int))] 3)).alloc (.cells #[.int .i64 0] 3)).cell? ⟨w.heap.size + 1, 2, none⟩ = some (.slice A1 L.length c1) := (((P2.out.alloc _).alloc _).cell 2).trans rfl
   have g1 : ((((w2.alloc (.cells #[.int .i64 ((F : Int) + (L.length : Int))] 3)).alloc (.cells #[.int .i64 0] 3)).alloc (.cells #[.slice A1 L.length c1] 33)).alloc (.cells #[.func (.func 78) #[] #[.pointer (some ⟨w2.heap.size + 1 + 1, 0, none⟩)]] 100)).cell? ⟨w.heap.size + 1, 1, none⟩ = some (.int .i64 (Z : Int)) := (((((P2.out.alloc _).alloc _).alloc _).alloc _).cell 1).trans rfl
   clear hW4 hb4 hsz4 hbw4 S0 pl told hR hU hrun hb2 HV hT1
   go_wp2_with (first
    | (go_at_call 51; refine (digestOf_any A1 L.length c1 _).mono ?_; rintro e w3 ⟨rfl, rfl⟩))
   rw [← HW4.out]
   refine HC.out.mono ?_; rintro e w5 ⟨rfl, O5, ⟨hO5, S5'⟩, F5⟩
   have HS5 := Lh S5'
   have b5 := F5
   obtain ⟨W6, hW6⟩ : ∃ W, W = (w5.alloc (.cells Z16.toArray 29)).setRow w5.heap.size (B8 R).toArray := ⟨_, rfl⟩
   have hb6 : Below w5.heap.size w5 W6 := by rw [hW6]; exact belowRow ((Below.refl _ _).alloc (Nat.le_refl _) _) (Nat.le_refl _) _
   have S6 := Lh (HS5.out.below PL.out hb6)
   have D6 := Lh (show Blk W6 w5.heap.size 29 (B8 R) by rw [hW6]; exact (Blk.new w5 29 Z16).row _)
   have R5 := F5.blk R4.out (by omega)
   have R6 := Lh (R5.below hb6 R5.lt)
   have BF := Lh (show Below w.heap.size w W6 from (B4.out.trans ⟨F5.os, F5.tape, F5.output, F5.size, fun k hk => F5.keep k (by have := HS4.out; omega) (by omega)⟩).trans (hb6.mono (by have := F5.size; have := HS4.out; omega)))
   have q0 : W6.cell? ⟨w2.heap.size + 1, 0, none⟩ = some (.int .i64 (U : Int)) := (S6.out.u.cell 0).trans rfl
   have q3 : W6.cell? ⟨w.heap.size + 1, 3, none⟩ = some (.slice A2 S.length c2) := (S6.out.p.cell 3).trans rfl
   have L6 := Lh D6.out.at
   have L7 := Lh R6.out.at
   have HW6 := Lh hW6
   have hE := fun W => eql29 R root HRl.out HRo.out W
   have hZ := hZ16
   clear S5' F5 b5 hW6 hb6 R5 e0 e1 e2 g1 g2 HC hadd
   by_cases hu : U = S.length
   ·
    have hu1 : ((U : Int) == (S.length : Int)) = true := by rw [beq_iff_eq]; omega
    have HX := Lh (show (decide (U = S.length) && decide (R = root)) = (R == root) by rw [decide_eq_true hu, Bool.true_and, Bool.eq_iff_iff]; simp)
    clear hu
    go_wp2_with (first
     | (with_reducible refine wpList_store_row rfl 29 (.tmp 8) (.tmp 60) rfl w5.heap.size (B8 R).toArray rfl rfl 29 _ (heap_alloc_new w5 _) (size29' _ HRl.out) (Z16_size _ HRl.out) (one8 _) ?_; rw [← HW6.out])
     | (refine wpList_load_guarded 29 (.tmp 8) rfl ⟨w5.heap.size, 0, none⟩ rfl (by rfl) (B8 R) (.array 16 5) L6.out Tryd.underlying29 rfl (size29 _ HRl.out) ?_)
     | (refine wpList_load_guarded 29 (.tmp 2) rfl ⟨w.heap.size, 0, none⟩ rfl (by rfl) (B8 root) (.array 16 5) L7.out Tryd.underlying29 rfl (size29 _ HRo.out) ?_))
    go_ret
    exact ⟨by rw [HUB.out, HX.out]; try rfl, BF.out⟩
   ·
    have hu1 : ((U : Int) == (S.length : Int)) = false := by rw [beq_eq_false_iff_ne]; omega
    have HX := Lh (show (decide (U = S.length) && decide (R = root)) = false by rw [decide_eq_false hu, Bool.false_and])
    clear hu
    go_wp2_with (first
     | (with_reducible refine wpList_store_row rfl 29 (.tmp 8) (.tmp 60) rfl w5.heap.size (B8 R).toArray rfl rfl 29 _ (heap_alloc_new w5 _) (size29' _ HRl.out) (Z16_size _ HRl.out) (one8 _) ?_; rw [← HW6.out]))
    go_ret
    exact ⟨by rw [HUB.out, HX.out]; try rfl, BF.out⟩
 ·
  have c61 : (V == 0) = false := by rw [beq_eq_false_iff_ne]; exact c6'
  rw [bad (by unfold formP; rw [show decide (validE L = 0) = false by rw [← hV]; simpa using c6']; simp)]
  clear bad c6' hV
  by_cases c7 : 0 < sz
  ·
   have c8 : ((L.length : Int) == 0) = false := by rw [beq_eq_false_iff_ne]; omega
   go_enter Tryd.func59, Tryd.ntmps59
   go_wp2_with (go_at_call 15; rw [← HW.out]; refine HV.out.mono ?_; rintro e w2 ⟨rfl, hb2⟩; have HB2 := Lh hb2; clear hb2)
   go_ret
   exact ⟨rfl, HB.out.trans (by have := HB2.out; rw [HW.out] at this; exact this.mono (by simp; omega))⟩
  ·
   go_enter Tryd.func59, Tryd.ntmps59
   go_wp2_with (go_at_call 15; rw [← HW.out]; refine HV.out.mono ?_; rintro e w2 ⟨rfl, hb2⟩; have HB2 := Lh hb2; clear hb2)
   go_ret
   exact ⟨rfl, HB.out.trans (by have := HB2.out; rw [HW.out] at this; exact this.mono (by simp; omega))⟩
end Go.Proofs.YtofccgkgjcnfbaaDoor
