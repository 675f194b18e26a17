/-
  The contracts of the reader's small functions: skips, expect, kindHere, statementHere, text, name, local, numeral, number.
  No condition but the lengths.
-/
import Derived.Test.YtpbhgebblpdmnaaDoorZ
import Derived.Test.YtpbhgebblpdmnaaDoorGShfLcRd
namespace Go.Proofs.YtpbhgebblpdmnaaDoor
open Go.RowKit Wr Src
set_option linter.unusedVariables false
set_option maxRecDepth 100000
theorem RS.cells {B : Nat} {w : World} {g : Nat} {T : Str} {E : Nat} {s : St} (h : RS B w g T E s) : w.cell? ⟨g, 0, none⟩ = some (sv T) ∧ w.cell? ⟨g, 1, none⟩ = some (nv (cls s.look)) ∧ w.cell? ⟨g, 2, none⟩ = some (sv s.look) ∧ w.cell? ⟨g, 3, none⟩ = some (nv (s.at' E)) ∧ w.cell? ⟨g, 4, none⟩ = some (nv (opOf s.look).1) ∧ w.cell? ⟨g, 5, none⟩ = some (iv (kdOf s.look)) ∧ w.cell? ⟨g, 6, none⟩ = some (nv s.e) :=
 ⟨h.b.cell 0, h.b.cell 1, h.b.cell 2, h.b.cell 3, h.b.cell 4, h.b.cell 5, h.b.cell 6⟩
abbrev pt (g : Nat) : Value := .pointer (some ⟨g, 0, none⟩)
section
variable {B : Nat} {w : World} {g : Nat} {T : Str} {E : Nat} {s : St}
theorem skips_yes (h : RS B w g T E s) {t : Str} (ht : s.look = t) (h0 : t ≠ []) : Calls Tryd.prog 57 #[pt g, sv t] w fun en w' => en = .returned (.bool true) ∧ RS B w' g T E s.adv ∧ Kp (fun k => k = g) w w' := by
 have HA := Lh (advance_any h (by rw [ht]; exact h0))
 obtain ⟨c0, c1, c2, c3, c4, c5, c6⟩ := h.cells
 have q1 : (s.look == t) = true := by rw [beq_iff_eq]; exact ht
 have q2 : (s.look != t) = false := by rw [bne, q1]; rfl
 clear h ht h0
 go_enter Tryd.func57, Tryd.ntmps57
 go_wp2_with fail
 refine HA.out.mono ?_
 rintro e w1 ⟨rfl, h1, k1⟩
 go_wp2_with fail
 go_ret
 exact ⟨rfl, h1, k1⟩
theorem skips_no (h : RS B w g T E s) {t : Str} (ht : s.look ≠ t) : Calls Tryd.prog 57 #[pt g, sv t] w fun en w' => en = .returned (.bool false) ∧ w = w' := by
 obtain ⟨c0, c1, c2, c3, c4, c5, c6⟩ := h.cells
 have q1 : (s.look == t) = false := by rw [beq_eq_false_iff_ne]; exact ht
 have q2 : (s.look != t) = true := by rw [bne, q1]; rfl
 clear h ht
 go_enter Tryd.func57, Tryd.ntmps57
 go_wp2_with fail
 go_ret
 exact ⟨rfl, rfl⟩
theorem expect_any (h : RS B w g T E s) {t : Str} (h0 : t ≠ []) : Calls Tryd.prog 51 #[pt g, sv t] w fun en w' => en = .returned (.tuple #[]) ∧ RS B w' g T E (s.expect t) ∧ Kp (fun k => k = g) w w' := by
 by_cases ht : s.look = t
 ·
  have HS := Lh (skips_yes h ht h0)
  have HE := Lh (show s.expect t = s.adv by unfold St.expect; rw [if_pos ht])
  clear h ht h0
  go_enter Tryd.func51, Tryd.ntmps51
  go_wp2_with fail
  refine HS.out.mono ?_
  rintro e w1 ⟨rfl, h1, k1⟩
  go_wp2_with fail
  exact bodyPost_end (v := .tuple #[]) (res_none rfl _ _) rfl ⟨rfl, by rw [HE.out]; exact h1, k1⟩
 ·
  have HS := Lh (skips_no h ht)
  have HE := Lh (show s.expect t = s.fail 2 by unfold St.expect; rw [if_neg ht])
  have HF := Lh (fail_any h 2 (by omega) (by omega))
  clear h ht h0
  go_enter Tryd.func51, Tryd.ntmps51
  go_wp2_with fail
  refine HS.out.mono ?_
  rintro e w1 ⟨rfl, rfl⟩
  go_wp2_with fail
  refine HF.out.mono ?_
  rintro e w1 ⟨rfl, h1, k1⟩
  go_wp2_with fail
  exact bodyPost_end (v := .tuple #[]) (res_none rfl _ _) rfl ⟨rfl, by rw [HE.out]; exact h1, k1⟩
theorem kindHere_eq (s : St) (a b : Int) : s.kindHere a b = if cls s.look = 2 ∧ a ≤ kdOf s.look ∧ kdOf s.look ≤ b then kdOf s.look else -1 := by
 unfold St.kindHere kdOf
 by_cases h2 : cls s.look = 2
 ·
  rw [if_pos h2]
  have : (wordKind s.look).isSome = true := by
   unfold cls at h2
   split at h2
   ·
    cases h2
   ·
    rename_i b' t' he
    split at h2
    ·
     split at h2
     ·
      rename_i h; exact h
     ·
      cases h2
    ·
     split at h2
     ·
      cases h2
     ·
      split at h2 <;> cases h2
  obtain ⟨k, hk⟩ := Option.isSome_iff_exists.1 this
  rw [hk]
  simp only [Option.getD_some]
 ·
  cases wordKind s.look with
  | none => dsimp only; rw [if_neg (fun h => h2 h.1)]
  | some k => dsimp only; rw [if_neg (fun h => h2 h.1), if_neg (fun h => h2 h.1)]
set_option maxHeartbeats 2000000 in
theorem kindHere_any (h : RS B w g T E s) (a b : Int) : Calls Tryd.prog 38 #[pt g, iv a, iv b] w fun en w' => en = .returned (iv (s.kindHere a b)) ∧ Below w.heap.size w w' := by
 suffices hgen : ∀ R, Hid (s.kindHere a b = R) → Calls Tryd.prog 38 #[pt g, iv a, iv b] w fun en w' => en = .returned (iv R) ∧ Below w.heap.size w w' from hgen _ (Lh rfl)
 intro R HR
 have hr := HR.out
 rw [kindHere_eq] at hr
 obtain ⟨c0, c1, c2, c3, c4, c5, c6⟩ := h.cells
 have z1 := zero62
 have HB := Lh (fun o => (Below.refl w.heap.size w).alloc (Nat.le_refl _) o)
 generalize kdOf s.look = k at *
 generalize cls s.look = c at *
 clear h HR
 by_cases h2 : c = 2
 ·
  have h2I : (((c : Nat) : Int) != 2) = false := by rw [h2]; rfl
  by_cases h3 : a ≤ k
  ·
   have h3I : ¬ k < a := by omega
   by_cases h4 : k ≤ b
   ·
    have h4I : ¬ b < k := by omega
    rw [if_pos ⟨h2, h3, h4⟩] at hr
    subst hr
    clear h2 h3 h4
    go_enter Tryd.func38, Tryd.ntmps38
    go_wp2_with fail
    go_ret
    exact ⟨rfl, HB.out _⟩
   ·
    have h4I : b < k := by omega
    rw [if_neg (fun e => h4 e.2.2)] at hr
    subst hr
    clear h2 h3 h4
    go_enter Tryd.func38, Tryd.ntmps38
    go_wp2_with fail
    go_ret
    exact ⟨rfl, HB.out _⟩
  ·
   have h3I : k < a := by omega
   rw [if_neg (fun e => h3 e.2.1)] at hr
   subst hr
   clear h2 h3
   go_enter Tryd.func38, Tryd.ntmps38
   go_wp2_with fail
   go_ret
   exact ⟨rfl, HB.out _⟩
 ·
  have h2I : (((c : Nat) : Int) != 2) = true := by rw [bne_iff_ne]; omega
  rw [if_neg (fun e => h2 e.1)] at hr
  subst hr
  clear h2
  go_enter Tryd.func38, Tryd.ntmps38
  go_wp2_with fail
  go_ret
  exact ⟨rfl, HB.out _⟩
theorem stmtHere_any (h : RS B w g T E s) : Calls Tryd.prog 64 #[pt g] w fun en w' => en = .returned (iv s.stmtHere) ∧ Below w.heap.size w w' := by
 suffices hgen : ∀ R, Hid (s.stmtHere = R) → Calls Tryd.prog 64 #[pt g] w fun en w' => en = .returned (iv R) ∧ Below w.heap.size w w' from hgen _ (Lh rfl)
 intro R HR
 have hr := HR.out
 unfold St.stmtHere at hr
 have HK := Lh (kindHere_any h 11 25)
 obtain ⟨c0, c1, c2, c3, c4, c5, c6⟩ := h.cells
 generalize cls s.look = c at *
 clear h HR
 by_cases h5 : c = 5
 ·
  rw [if_pos h5] at hr
  have h5I : (((c : Nat) : Int) == 5) = true := by rw [h5]; rfl
  subst hr
  clear h5
  go_enter Tryd.func64, Tryd.ntmps64
  go_wp2_with fail
  go_ret
  exact ⟨rfl, Below.refl _ _⟩
 ·
  rw [if_neg h5] at hr
  have h5I : (((c : Nat) : Int) == 5) = false := by rw [beq_eq_false_iff_ne]; omega
  by_cases h3 : c = 3
  ·
   rw [if_pos h3] at hr
   have h3I : (((c : Nat) : Int) == 3) = true := by rw [h3]; rfl
   subst hr
   clear h5 h3
   go_enter Tryd.func64, Tryd.ntmps64
   go_wp2_with fail
   go_ret
   exact ⟨rfl, Below.refl _ _⟩
  ·
   rw [if_neg h3] at hr
   have h3I : (((c : Nat) : Int) == 3) = false := by rw [beq_eq_false_iff_ne]; omega
   rw [hr] at HK
   clear h5 h3 hr
   go_enter Tryd.func64, Tryd.ntmps64
   go_wp2_with fail
   refine HK.out.mono ?_
   rintro e w1 ⟨rfl, hb⟩
   go_wp2_with fail
   go_ret
   exact ⟨rfl, hb⟩
set_option maxHeartbeats 2000000 in
theorem text_any (h : RS B w g T E s) (c : Nat) (hc : c ≠ 0) : Calls Tryd.prog 68 #[pt g, nv c] w fun en w' => en = .returned (sv (s.getText c).1) ∧ RS B w' g T E (s.getText c).2 ∧ Kp (fun k => k = g) w w' := by
 obtain ⟨c0, c1, c2, c3, c4, c5, c6⟩ := h.cells
 have z1 := zero62
 by_cases h1 : cls s.look = c
 ·
  have HE := Lh (show s.getText c = (s.look, s.adv) by unfold St.getText; rw [if_pos h1])
  have HA := Lh (fun o => advance_any (h.below ((Below.refl w.heap.size w).alloc (Nat.le_refl _) o)) (cls_ne h1 hc))
  have h1I : (((cls s.look : Nat) : Int) != ((c : Nat) : Int)) = false := by rw [bne, h1]; simp
  have HX := Lh (fun cs => Blk.new w 62 cs)
  have HG := Lh h.lt
  obtain ⟨t, ht⟩ : ∃ t, t = s.look := ⟨_, rfl⟩
  rw [← ht] at c1 c2 c4 c5 HE h1I
  clear h h1 hc ht
  go_enter Tryd.func68, Tryd.ntmps68
  go_wp2_with fail
  refine (HA.out _).mono ?_
  rintro e w1 ⟨rfl, h1, k1⟩
  have b1 := k1.blk (HX.out _) (by have := HG.out; omega)
  have d1 := b1.cell 1
  have K0 := Lh ((Kp.alloc (fun k => k = g) w (.cells _ 62)).trans k1 (fun _ _ h => h))
  clear c0 c1 c2 c3 c4 c5 c6 k1 b1
  simp only [g0, gs] at d1
  go_wp2_with fail
  go_ret
  exact ⟨by rw [HE.out]; rfl, by rw [HE.out]; exact h1, K0.out⟩
 ·
  have HE := Lh (show s.getText c = ([], s.fail 2) by unfold St.getText; rw [if_neg h1])
  have HA := Lh (fun o => fail_any (h.below ((Below.refl w.heap.size w).alloc (Nat.le_refl _) o)) 2 (by omega) (by omega))
  have h1I : (((cls s.look : Nat) : Int) != ((c : Nat) : Int)) = true := by rw [bne_iff_ne]; omega
  have HK := Lh (fun o => Kp.alloc (fun k => k = g) w o)
  clear h h1 hc
  go_enter Tryd.func68, Tryd.ntmps68
  go_wp2_with fail
  refine (HA.out _).mono ?_
  rintro e w1 ⟨rfl, h1, k1⟩
  go_wp2_with fail
  go_ret
  exact ⟨by rw [HE.out]; rfl, by rw [HE.out]; exact h1, (HK.out _).trans k1 (fun _ _ h => h)⟩
theorem name_any (h : RS B w g T E s) : Calls Tryd.prog 58 #[pt g] w fun en w' => en = .returned (sv s.name.1) ∧ RS B w' g T E s.name.2 ∧ Kp (fun k => k = g) w w' := by
 have HA := Lh (text_any h 3 (by omega))
 clear h
 go_enter Tryd.func58, Tryd.ntmps58
 go_wp2_with fail
 refine HA.out.mono ?_
 rintro e w1 ⟨rfl, h1, k1⟩
 go_wp2_with fail
 go_ret
 exact ⟨rfl, h1, k1⟩
theorem getText_loc (s : St) : (s.getText 5).1 = [] ∨ ∃ u, (s.getText 5).1 = 36 :: u := by
 unfold St.getText
 split
 ·
  rename_i h
  right
  unfold cls at h
  split at h
  ·
   cases h
  ·
   rename_i b t he
   split at h
   ·
    split at h <;> cases h
   ·
    split at h
    ·
     cases h
    ·
     split at h
     ·
      rename_i hb; exact ⟨t, by rw [he, hb]⟩
     ·
      cases h
 ·
  exact Or.inl rfl
theorem local_any (h : RS B w g T E s) : Calls Tryd.prog 59 #[pt g] w fun en w' => en = .returned (sv s.loc.1) ∧ RS B w' g T E s.loc.2 ∧ Kp (fun k => k = g) w w' := by
 have HA := Lh (text_any h 5 (by omega))
 have HT := Lh (fun W => trimPrefix_any (s.getText 5).1 W (getText_loc s))
 have HE1 := Lh (show s.loc.1 = (s.getText 5).1.drop 1 from rfl)
 have HE2 := Lh (show s.loc.2 = (s.getText 5).2 from rfl)
 generalize s.getText 5 = q at HA HT HE1 HE2
 clear h
 go_enter Tryd.func59, Tryd.ntmps59
 go_wp2_with fail
 refine HA.out.mono ?_
 rintro e w1 ⟨rfl, h1, k1⟩
 go_wp2_with fail
 refine (HT.out _).mono ?_
 rintro e w2 ⟨rfl, rfl⟩
 go_wp2_with fail
 go_ret
 exact ⟨by rw [HE1.out, List.drop_one]; rfl, by rw [HE2.out]; exact h1, k1⟩
theorem numeral_tok (h : RS B w g T E s) (hc : cls s.look = 4) : s.look ≠ [] ∧ s.look.all isD = true ∧ s.look.length ≤ 3 := by
 have h0 := cls_ne hc (by omega)
 obtain ⟨he, p, R, hs⟩ := mu_look h0
 obtain ⟨q, hq, hx⟩ := h.x
 have hm := lex_proper (T.drop q).length (T.drop q) q (s.look, p) (by
  show _ ∈ (LX (T.drop q) q).1
  rw [hx, hs]; exact List.mem_cons_self)
 obtain ⟨hl, _⟩ := hm
 refine ⟨h0, ?_⟩
 dsimp only at hl
 cases ht : s.look with
 | nil => exact absurd ht h0
 | cons b t =>
  rw [ht] at hc hl
  have hL : isL b = false := by
   cases hb : isL b with
   | false => rfl
   | true => rw [isL_cls hb] at hc; split at hc <;> cases hc
  have hD : isD b = true := by
   unfold cls at hc; dsimp only at hc
   rw [if_neg (by rw [hL]; simp)] at hc
   split at hc
   ·
    assumption
   ·
    split at hc <;> cases hc
  unfold tokLen at hl
  dsimp only at hl
  rw [if_neg (by rw [hL]; simp), if_pos hD] at hl
  unfold numLen at hl
  split at hl
  ·
   rename_i h3
   refine ⟨?_, by omega⟩
   have e : (b :: t).takeWhile isD = b :: t := (List.takeWhile_prefix (p := isD)).eq_of_length hl
   rw [← e]; exact List.all_takeWhile
  ·
   simp at hl
abbrev SV (wd ps : Str) (lo hi : Nat) : Value := .agg #[sv wd, sv ps, nv lo, nv hi]
set_option maxHeartbeats 2000000 in
theorem numeral_any (h : RS B w g T E s) (wd ps : Str) (lo hi : Nat) : Calls Tryd.prog 60 #[pt g, SV wd ps lo hi] w fun en w' => en = .returned (iv (s.numeral lo hi).1) ∧ RS B w' g T E (s.numeral lo hi).2 ∧ Kp (fun k => k = g) w w' := by
 have c1 : ∀ o, (w.alloc o).cell? ⟨g, 1, none⟩ = some (nv (cls s.look)) := fun o => (h.below ((Below.refl w.heap.size w).alloc (Nat.le_refl _) o)).cells.2.1
 have c2 : ∀ o, (w.alloc o).cell? ⟨g, 2, none⟩ = some (sv s.look) := fun o => (h.below ((Below.refl w.heap.size w).alloc (Nat.le_refl _) o)).cells.2.2.1
 have HG := Lh h.lt
 have HX := Lh (fun cs => Blk.new w 82 cs)
 have HK := Lh (fun o => Kp.alloc (fun k => k = g) w o)
 by_cases h4 : cls s.look = 4
 ·
  obtain ⟨n1, n2, n3⟩ := numeral_tok h h4
  have h4I : (((cls s.look : Nat) : Int) != 4) = false := by rw [h4]; rfl
  have HAt := Lh (fun W => atoi_any s.look W n1 n2 n3)
  have HA := Lh (fun W (hW : Below w.heap.size w W) => advance_any (h.below hW) n1)
  have HF := Lh (fun W (hW : Below w.heap.size w W) => fail_any (h.below hW) 5 (by omega) (by omega))
  have hnum : s.numeral lo hi = if decN s.look < lo ∨ hi < decN s.look then (0, s.fail 5) else ((decN s.look : Int), s.adv) := by
   unfold St.numeral; rw [if_neg (by simp [h4])]
  have hlt : decN s.look ≤ 100000000 := by
   have h5 : ∀ (l : Str) (a : Nat), l.all isD = true → l.foldl (fun v c => 10 * v + (c.toNat - 48)) a ≤ (a + 1) * 10 ^ l.length := by
    intro l
    induction l with
    | nil => intro a _; simp
    | cons b r ih =>
     intro a hr
     rw [List.all_cons, Bool.and_eq_true] at hr
     have hb := of_decide_eq_true (show decide (48 ≤ b.toNat ∧ b.toNat ≤ 57) = true from hr.1)
     rw [List.foldl_cons, List.length_cons]
     refine Nat.le_trans (ih _ hr.2) ?_
     rw [Nat.pow_succ, ← Nat.mul_assoc, Nat.mul_right_comm]
     exact Nat.mul_le_mul_right _ (by omega)
   have h6 := h5 s.look 0 n2
   unfold decN
   refine Nat.le_trans h6 ?_
   have : 10 ^ s.look.length ≤ 10 ^ 3 := Nat.pow_le_pow_right (by omega) n3
   omega
  generalize decN s.look = n at *
  obtain ⟨t, ht⟩ : ∃ t, t = s.look := ⟨_, rfl⟩
  simp only [← ht] at c1 c2
  rw [← ht] at HAt h4I
  have hltI : (n : Int) ≤ 100000000 := by omega
  clear h h4 n1 n2 n3 ht hlt
  by_cases hlo : n < lo
  ·
   have hloI : (n : Int) < (lo : Int) := by omega
   have HE := Lh (hnum.trans (if_pos (Or.inl hlo)))
   clear hnum hlo HA
   go_enter Tryd.func60, Tryd.ntmps60
   go_wp2_with fail
   refine (HAt.out _).mono ?_
   rintro e w1 ⟨rfl, hb⟩
   have hb0 := Lh (((Below.refl w.heap.size w).alloc (Nat.le_refl _) _).trans (hb.mono (by simp)))
   have b1 := (HX.out _).below hb (by simp)
   have d2 := b1.cell 2; have d3 := b1.cell 3
   simp only [g0, gs] at d2 d3
   clear c1 c2 b1 hb
   go_wp2_with fail
   refine (HF.out _ hb0.out).mono ?_
   rintro e w2 ⟨rfl, h1, k1⟩
   go_wp2_with fail
   go_ret
   exact ⟨by rw [HE.out]; rfl, by rw [HE.out]; exact h1, (Kp.of_below' hb0.out).trans k1 (fun _ _ h => h)⟩
  ·
   have hloI : ¬ (n : Int) < (lo : Int) := by omega
   by_cases hhi : hi < n
   ·
    have hhiI : (hi : Int) < (n : Int) := by omega
    have HE := Lh (hnum.trans (if_pos (Or.inr hhi)))
    clear hnum hlo hhi HA
    go_enter Tryd.func60, Tryd.ntmps60
    go_wp2_with fail
    refine (HAt.out _).mono ?_
    rintro e w1 ⟨rfl, hb⟩
    have hb0 := Lh (((Below.refl w.heap.size w).alloc (Nat.le_refl _) _).trans (hb.mono (by simp)))
    have b1 := (HX.out _).below hb (by simp)
    have d2 := b1.cell 2; have d3 := b1.cell 3
    simp only [g0, gs] at d2 d3
    clear c1 c2 b1 hb
    go_wp2_with fail
    refine (HF.out _ hb0.out).mono ?_
    rintro e w2 ⟨rfl, h1, k1⟩
    go_wp2_with fail
    go_ret
    exact ⟨by rw [HE.out]; rfl, by rw [HE.out]; exact h1, (Kp.of_below' hb0.out).trans k1 (fun _ _ h => h)⟩
   ·
    have hhiI : ¬ (hi : Int) < (n : Int) := by omega
    have HE := Lh (hnum.trans (if_neg (fun e => e.elim hlo hhi)))
    clear hnum hlo hhi HF
    go_enter Tryd.func60, Tryd.ntmps60
    go_wp2_with fail
    refine (HAt.out _).mono ?_
    rintro e w1 ⟨rfl, hb⟩
    have hb0 := Lh (((Below.refl w.heap.size w).alloc (Nat.le_refl _) _).trans (hb.mono (by simp)))
    have b1 := (HX.out _).below hb (by simp)
    have d2 := b1.cell 2; have d3 := b1.cell 3
    simp only [g0, gs] at d2 d3
    clear c1 c2 b1 hb
    go_wp2_with fail
    refine (HA.out _ hb0.out).mono ?_
    rintro e w2 ⟨rfl, h1, k1⟩
    go_wp2_with fail
    go_ret
    exact ⟨by rw [HE.out]; rfl, by rw [HE.out]; exact h1, (Kp.of_below' hb0.out).trans k1 (fun _ _ h => h)⟩
 ·
  have h4I : (((cls s.look : Nat) : Int) != 4) = true := by rw [bne_iff_ne]; omega
  have HE := Lh (show s.numeral lo hi = (0, s.fail 2) by unfold St.numeral; rw [if_pos h4])
  have HF := Lh (fun o => fail_any (h.below ((Below.refl w.heap.size w).alloc (Nat.le_refl _) o)) 2 (by omega) (by omega))
  clear h h4
  go_enter Tryd.func60, Tryd.ntmps60
  go_wp2_with fail
  refine (HF.out _).mono ?_
  rintro e w2 ⟨rfl, h1, k1⟩
  go_wp2_with fail
  go_ret
  exact ⟨by rw [HE.out]; rfl, by rw [HE.out]; exact h1, (HK.out _).trans k1 (fun _ _ h => h)⟩
end
end Go.Proofs.YtpbhgebblpdmnaaDoor
