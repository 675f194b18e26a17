/-
  The scanner's values; the reader's place; what is left to read; the reader's functions, from some fuel on.
  Plain mathematics: no condition.
-/
import Derived.Test.YtpbhgebblpdmnaaDoorSrc
namespace Go.Proofs.YtpbhgebblpdmnaaDoor
namespace Src
set_option linter.unusedVariables false
open Nd
/-! The scanner's values. -/
def kdOf (t : Str) : Int := if cls t = 2 then (wordKind t).getD 0 else if cls t = 6 then (opOf t).2 else 0
def sgs : List Str := [[60, 61], [61, 61], [60], [43], [45], [42], [61], [59], [46], [40], [41], [123], [125]]
def sgAt (l : Str) : Str := (sgs.find? (fun s => s.isPrefixOf l)).getD []
def tokAt (l : Str) : Nat × Str × Nat × Int :=
  match l with
  | [] => (0, [], 0, 0)
  | b :: t =>
    if isBlank b = true then (1, [b], 0, 0)
    else if isL b = true then
      (match wordKind ((b :: t).take (wordLen (b :: t))) with
       | some k => (2, (b :: t).take (wordLen (b :: t)), 0, k)
       | none => if (b :: t).take (wordLen (b :: t)) = [] then (2, [], 0, 7) else (3, (b :: t).take (wordLen (b :: t)), 0, 0))
    else if isD b = true then (4, (b :: t).take (numLen (b :: t)), 0, 0)
    else if b = 36 then (5, (b :: t).take (if wordLen t = 0 then 0 else wordLen t + 1), 0, 0)
    else if sgAt (b :: t) = [] then (0, [], 0, 0) else (6, sgAt (b :: t), (opOf (sgAt (b :: t))).1, (opOf (sgAt (b :: t))).2)
theorem pre1 (c b : UInt8) (t : Str) : List.isPrefixOf [c] (b :: t) = (c == b) := by simp [List.isPrefixOf]
theorem pre2 (c d b : UInt8) (t : Str) : List.isPrefixOf [c, d] (b :: t) = (c == b && (t.head? == some d)) := by
  cases t with
  | nil => simp [List.isPrefixOf]
  | cons e u => simp [List.isPrefixOf, BEq.comm]
theorem sgAt_eq (b : UInt8) (t : Str) : sgAt (b :: t) =
    if b = 60 then (if t.head? = some 61 then [60, 61] else [60])
    else if b = 61 then (if t.head? = some 61 then [61, 61] else [61])
    else if isS b = true then [b] else [] := by
  unfold sgAt sgs isS
  simp only [List.find?_cons, List.find?_nil, pre1, pre2]
  by_cases h1 : b = 60
  · subst h1
    by_cases h2 : t.head? = some 61
    · rw [h2]; simp
    · have h2' : (t.head? == some 61) = false := by rw [beq_eq_false_iff_ne]; exact h2
      simp [h2, h2']
  · by_cases h3 : b = 61
    · subst h3
      by_cases h2 : t.head? = some 61
      · rw [h2]; simp
      · have h2' : (t.head? == some 61) = false := by rw [beq_eq_false_iff_ne]; exact h2
        simp [h2, h2']
    · have e1 : (60 == b) = false := by rw [beq_eq_false_iff_ne]; exact fun h => h1 h.symm
      have e2 : (61 == b) = false := by rw [beq_eq_false_iff_ne]; exact fun h => h3 h.symm
      simp only [e1, e2, Bool.false_and, if_neg h1, if_neg h3]
      by_cases a1 : b = 43
      · subst a1; simp
      by_cases a2 : b = 45
      · subst a2; simp
      by_cases a3 : b = 42
      · subst a3; simp
      by_cases a4 : b = 59
      · subst a4; simp
      by_cases a5 : b = 46
      · subst a5; simp
      by_cases a6 : b = 40
      · subst a6; simp
      by_cases a7 : b = 41
      · subst a7; simp
      by_cases a8 : b = 123
      · subst a8; simp
      by_cases a9 : b = 125
      · subst a9; simp
      have f : ∀ c : UInt8, b ≠ c → (c == b) = false := fun c h => by rw [beq_eq_false_iff_ne]; exact fun e => h e.symm
      simp [f _ a1, f _ a2, f _ a3, f _ a4, f _ a5, f _ a6, f _ a7, f _ a8, f _ a9, a1, a2, a3, a4, a5, a6, a7, a8, a9]
theorem tokAt_blank {b : UInt8} (t : Str) (h : isBlank b = true) : tokAt (b :: t) = (1, [b], 0, 0) := by unfold tokAt; dsimp only; rw [if_pos h]
theorem isL_cls {b : UInt8} {t : Str} (h : isL b = true) : cls (b :: t) = if (wordKind (b :: t)).isSome then 2 else 3 := by unfold cls; dsimp only; rw [if_pos h]
theorem opOf_letter {b : UInt8} {t : Str} (h : isL b = true) : opOf (b :: t) = (0, 0) := by
  unfold opOf
  have g : ∀ c : UInt8, isL c = false → ∀ u : Str, b :: t ≠ c :: u := by
    intro c hc u e; injection e with e1 e2; rw [e1, hc] at h; cases h
  rw [if_neg (g _ (by decide) _), if_neg (g _ (by decide) _), if_neg (g _ (by decide) _), if_neg (g _ (by decide) _), if_neg (g _ (by decide) _), if_neg (g _ (by decide) _)]
theorem opOf_digit {b : UInt8} {t : Str} (h : isD b = true) : opOf (b :: t) = (0, 0) := by
  unfold opOf
  have g : ∀ c : UInt8, isD c = false → ∀ u : Str, b :: t ≠ c :: u := by
    intro c hc u e; injection e with e1 e2; rw [e1, hc] at h; cases h
  rw [if_neg (g _ (by decide) _), if_neg (g _ (by decide) _), if_neg (g _ (by decide) _), if_neg (g _ (by decide) _), if_neg (g _ (by decide) _), if_neg (g _ (by decide) _)]
theorem tokAt_tok {b : UInt8} (t : Str) (hb : isBlank b = false) : (tokAt (b :: t)).2.1 = (b :: t).take (tokLen (b :: t)) ∧
    (tokLen (b :: t) ≠ 0 → tokAt (b :: t) = (cls ((b :: t).take (tokLen (b :: t))), (b :: t).take (tokLen (b :: t)), (opOf ((b :: t).take (tokLen (b :: t)))).1, kdOf ((b :: t).take (tokLen (b :: t))))) := by
  unfold tokAt tokLen
  dsimp only
  rw [if_neg (by rw [hb]; simp)]
  by_cases hL : isL b = true
  · rw [if_pos hL, if_pos hL]
    obtain ⟨n, hn⟩ : ∃ n, n = wordLen (b :: t) := ⟨_, rfl⟩
    rw [← hn]
    cases n with
    | zero =>
      rw [List.take_zero]
      have : wordKind ([] : Str) = none := by decide
      rw [this]
      exact ⟨rfl, fun h => absurd rfl h⟩
    | succ n =>
      rw [List.take_succ_cons]
      cases hk : wordKind (b :: t.take n) with
      | none =>
        dsimp only
        rw [if_neg (by simp)]
        refine ⟨rfl, fun _ => ?_⟩
        unfold kdOf
        rw [isL_cls hL, opOf_letter hL, hk]; rfl
      | some k =>
        dsimp only
        refine ⟨rfl, fun _ => ?_⟩
        unfold kdOf
        rw [isL_cls hL, opOf_letter hL, hk]; rfl
  · rw [if_neg hL, if_neg hL]
    have hL' : isL b = false := by cases h : isL b with | true => exact absurd h hL | false => rfl
    by_cases hD : isD b = true
    · rw [if_pos hD, if_pos hD]
      refine ⟨rfl, fun h => ?_⟩
      obtain ⟨n, hn⟩ : ∃ n, numLen (b :: t) = n + 1 := ⟨numLen (b :: t) - 1, by omega⟩
      rw [hn, List.take_succ_cons]
      have hc : cls (b :: t.take n) = 4 := by unfold cls; dsimp only; rw [if_neg (by rw [hL']; simp), if_pos hD]
      unfold kdOf
      rw [hc, opOf_digit hD, if_neg (by decide), if_neg (by decide)]
    · rw [if_neg hD, if_neg hD]
      by_cases hd : b = 36
      · subst hd
        rw [if_pos rfl, if_pos rfl]
        refine ⟨rfl, fun h => ?_⟩
        obtain ⟨n, hn⟩ : ∃ n, (if wordLen t = 0 then 0 else wordLen t + 1) = n + 1 := ⟨(if wordLen t = 0 then 0 else wordLen t + 1) - 1, by omega⟩
        rw [hn, List.take_succ_cons]
        have hc : cls (36 :: t.take n) = 5 := cls_loc _
        have ho : opOf (36 :: t.take n) = (0, 0) := by unfold opOf; rw [if_neg (by simp), if_neg (by simp), if_neg (by simp), if_neg (by simp), if_neg (by simp), if_neg (by simp)]
        unfold kdOf
        rw [hc, ho, if_neg (by decide), if_neg (by decide)]
      · rw [if_neg hd, if_neg hd]
        have hcls : ∀ u : Str, cls (b :: u) = 6 := fun u => by
          have hD' : isD b = false := by cases h : isD b with | true => exact absurd h hD | false => rfl
          unfold cls
          dsimp only
          rw [if_neg (by rw [hL']; simp), if_neg (by rw [hD']; simp), if_neg hd]
        have hres : ∀ s u, sgAt (b :: t) = s → s = b :: u → (if s = [] then ((0 : Nat), ([] : Str), (0 : Nat), (0 : Int)) else (6, s, (opOf s).1, (opOf s).2)) = (cls s, s, (opOf s).1, kdOf s) := by
          intro s u _ hs
          rw [if_neg (by rw [hs]; simp)]
          unfold kdOf
          rw [show cls s = 6 by rw [hs]; exact hcls u, if_neg (by decide), if_pos rfl]
        have hs := sgAt_eq b t
        by_cases h60 : b = 60
        · subst h60
          rw [if_pos rfl] at hs
          rw [if_pos (Or.inl rfl)]
          by_cases h61 : t.head? = some 61
          · rw [if_pos h61] at hs
            rw [if_pos h61, hs]
            obtain ⟨u, rfl⟩ : ∃ u, t = 61 :: u := by cases t with | nil => cases h61 | cons e u => simp at h61; exact ⟨u, by rw [h61]⟩
            have e2 : List.take 2 (60 :: 61 :: u) = [60, 61] := rfl
            rw [e2]
            exact ⟨rfl, fun _ => hres _ _ hs rfl⟩
          · rw [if_neg h61] at hs
            rw [if_neg h61, hs]
            have e2 : List.take 1 (60 :: t) = [60] := rfl
            rw [e2]
            exact ⟨rfl, fun _ => hres _ _ hs rfl⟩
        · rw [if_neg h60] at hs
          by_cases h61b : b = 61
          · subst h61b
            rw [if_pos rfl] at hs
            rw [if_pos (Or.inr rfl)]
            by_cases h61 : t.head? = some 61
            · rw [if_pos h61] at hs
              rw [if_pos h61, hs]
              obtain ⟨u, rfl⟩ : ∃ u, t = 61 :: u := by cases t with | nil => cases h61 | cons e u => simp at h61; exact ⟨u, by rw [h61]⟩
              have e2 : List.take 2 (61 :: 61 :: u) = [61, 61] := rfl
              rw [e2]
              exact ⟨rfl, fun _ => hres _ _ hs rfl⟩
            · rw [if_neg h61] at hs
              rw [if_neg h61, hs]
              have e2 : List.take 1 (61 :: t) = [61] := rfl
              rw [e2]
              exact ⟨rfl, fun _ => hres _ _ hs rfl⟩
          · rw [if_neg h61b] at hs
            have hor : ¬ (b = 60 ∨ b = 61) := fun h => h.elim h60 h61b
            rw [if_neg hor]
            by_cases hS : isS b = true
            · rw [if_pos hS] at hs
              rw [if_pos hS, hs]
              have e2 : List.take 1 (b :: t) = [b] := rfl
              rw [e2]
              exact ⟨rfl, fun _ => hres _ _ hs rfl⟩
            · rw [if_neg hS] at hs
              rw [if_neg hS, hs]
              exact ⟨rfl, fun h => absurd rfl h⟩
/-! The reader's place. -/
def plc (E : Nat) (l : List Tok) : Nat := match l with | [] => E | t :: _ => t.2
def St.at' (s : St) (E : Nat) : Nat := plc E s.toks
theorem lx_step (b : UInt8) (t : Str) (i : Nat) (hb : isBlank b = false) : LX (b :: t) i = if tokLen (b :: t) = 0 then ([], i) else (((b :: t).take (tokLen (b :: t)), i) :: (LX ((b :: t).drop (tokLen (b :: t))) (i + tokLen (b :: t))).1, (LX ((b :: t).drop (tokLen (b :: t))) (i + tokLen (b :: t))).2) := by
  unfold LX
  show lex (t.length + 1) (b :: t) i = _
  rw [lex, if_neg (by rw [hb]; simp)]
  by_cases h0 : tokLen (b :: t) = 0
  · rw [if_pos h0, if_pos h0]
  · rw [if_neg h0, if_neg h0]
    have hl : ((b :: t).drop (tokLen (b :: t))).length ≤ t.length := by rw [List.length_drop, List.length_cons]; omega
    rw [lex_fuel t.length _ _ hl]
theorem lx_next : ∀ (n : Nat) (l : Str) (i : Nat) (t : Str) (p : Nat) (R : List Tok) (E : Nat), l.length ≤ n → LX l i = ((t, p) :: R, E) → i ≤ p ∧ p + t.length ≤ i + l.length ∧ t ≠ [] ∧ LX (l.drop (p + t.length - i)) (p + t.length) = (R, E) := by
  intro n
  induction n with
  | zero =>
    intro l i t p R E hn h
    obtain rfl := List.eq_nil_of_length_eq_zero (Nat.le_zero.1 hn)
    rw [LX_nil] at h; cases h
  | succ n ih =>
    intro l i t p R E hn h
    cases l with
    | nil => rw [LX_nil] at h; cases h
    | cons b u =>
      by_cases hb : isBlank b = true
      · rw [LX_blank u i hb] at h
        obtain ⟨h1, h2, h3, h4⟩ := ih u (i + 1) t p R E (by rw [List.length_cons] at hn; omega) h
        refine ⟨by omega, by rw [List.length_cons]; omega, h3, ?_⟩
        rw [show p + t.length - i = (p + t.length - (i + 1)) + 1 by omega, List.drop_succ_cons]
        exact h4
      · rw [lx_step b u i (by cases h : isBlank b with | true => exact absurd h hb | false => rfl)] at h
        by_cases h0 : tokLen (b :: u) = 0
        · rw [if_pos h0] at h; cases h
        · rw [if_neg h0] at h
          injection h with h1 h2
          injection h1 with h3 h4
          injection h3 with h5 h6
          subst h6
          obtain ⟨hk1, hk2⟩ := tok_take (b :: u) h0
          rw [h5] at hk2
          have hle : t.length ≤ (b :: u).length := by rw [← h5, List.length_take]; omega
          refine ⟨Nat.le_refl _, by omega, by intro e; rw [e] at hk2; exact h0 hk2.symm, ?_⟩
          rw [show i + t.length - i = t.length by omega, hk2, ← h4, ← h2]
def LXI (T : Str) (E : Nat) (s : St) : Prop := ∃ q, q ≤ T.length ∧ LX (T.drop q) q = (s.toks, E)
theorem LXI.start (T : Str) (e : Nat) : LXI T (LX T 0).2 ⟨(LX T 0).1, e⟩ := ⟨0, Nat.zero_le _, rfl⟩
theorem LXI.fail {T : Str} {E : Nat} {s : St} (h : LXI T E s) (e : Nat) : LXI T E (s.fail e) := by
  unfold St.fail; split <;> exact h
theorem lxi_next {T : Str} {E : Nat} {s : St} (h : LXI T E s) {t : Str} {p : Nat} {R : List Tok} (hs : s.toks = (t, p) :: R) : p + t.length ≤ T.length ∧ t ≠ [] ∧ LX (T.drop (p + t.length)) (p + t.length) = (R, E) := by
  obtain ⟨q, hq, h⟩ := h
  rw [hs] at h
  obtain ⟨h1, h2, h3, h4⟩ := lx_next _ _ _ _ _ _ _ (Nat.le_refl _) h
  rw [List.length_drop] at h2
  refine ⟨by omega, h3, ?_⟩
  rw [List.drop_drop, show q + (p + t.length - q) = p + t.length by omega] at h4
  exact h4
theorem LXI.adv {T : Str} {E : Nat} {s : St} (h : LXI T E s) : LXI T E s.adv := by
  cases hs : s.toks with
  | nil =>
    have : s.adv = s := by cases s with | mk a b => subst hs; rfl
    rw [this]; exact h
  | cons x R =>
    obtain ⟨t, p⟩ := x
    obtain ⟨h1, _, h2⟩ := lxi_next h hs
    refine ⟨p + t.length, h1, ?_⟩
    show _ = (s.toks.tail, E)
    rw [hs]; exact h2
theorem lx_end : ∀ (n : Nat) (l : Str) (i : Nat), l.length ≤ n → (LX l i).2 ≤ i + l.length ∧ i ≤ (LX l i).2 := by
  intro n
  induction n with
  | zero =>
    intro l i hn
    obtain rfl := List.eq_nil_of_length_eq_zero (Nat.le_zero.1 hn)
    rw [LX_nil]; exact ⟨Nat.le_refl _, Nat.le_refl _⟩
  | succ n ih =>
    intro l i hn
    cases l with
    | nil => rw [LX_nil]; exact ⟨Nat.le_refl _, Nat.le_refl _⟩
    | cons b u =>
      rw [List.length_cons] at hn ⊢
      by_cases hb : isBlank b = true
      · rw [LX_blank u i hb]
        obtain ⟨h1, h2⟩ := ih u (i + 1) (by omega)
        exact ⟨by omega, by omega⟩
      · rw [lx_step b u i (by cases h : isBlank b with | true => exact absurd h hb | false => rfl)]
        by_cases h0 : tokLen (b :: u) = 0
        · rw [if_pos h0]; exact ⟨by dsimp only; omega, Nat.le_refl _⟩
        · rw [if_neg h0]
          obtain ⟨hk1, hk2⟩ := tok_take (b :: u) h0
          rw [List.length_take, List.length_cons] at hk2
          obtain ⟨h1, h2⟩ := ih ((b :: u).drop (tokLen (b :: u))) (i + tokLen (b :: u)) (by rw [List.length_drop, List.length_cons]; omega)
          rw [List.length_drop, List.length_cons] at h1
          exact ⟨by dsimp only; omega, by dsimp only; omega⟩
theorem LXI.at_le {T : Str} {E : Nat} {s : St} (h : LXI T E s) : s.at' E ≤ T.length := by
  cases hs : s.toks with
  | nil =>
    obtain ⟨q, hq, h⟩ := h
    have := lx_end _ (T.drop q) q (Nat.le_refl _)
    rw [h, List.length_drop] at this
    unfold St.at' plc; rw [hs]; have := this.1; dsimp only at *; omega
  | cons x R =>
    obtain ⟨t, p⟩ := x
    have := lxi_next h hs
    unfold St.at' plc; rw [hs]; dsimp only; omega
/-! What is left to read. -/
def mu (s : St) : Nat := if s.e = 0 then s.toks.length else 0
theorem mu_look {s : St} (h : s.look ≠ []) : s.e = 0 ∧ ∃ p R, s.toks = (s.look, p) :: R := by
  unfold St.look at h ⊢
  by_cases he : s.e = 0
  · rw [if_pos he] at h ⊢
    cases hs : s.toks with
    | nil => rw [hs] at h; exact absurd rfl h
    | cons x R => exact ⟨he, x.2, R, rfl⟩
  · rw [if_neg he] at h; exact absurd rfl h
theorem mu_pos {s : St} (h : s.look ≠ []) : 1 ≤ mu s := by
  obtain ⟨he, p, R, hs⟩ := mu_look h
  unfold mu; rw [if_pos he, hs]; simp
theorem mu_adv {s : St} (h : s.look ≠ []) : mu s.adv = mu s - 1 := by
  obtain ⟨he, p, R, hs⟩ := mu_look h
  unfold mu St.adv; rw [if_pos he, if_pos he, hs]; simp
theorem mu_fail (s : St) {e : Nat} (he : e ≠ 0) : mu (s.fail e) = 0 := by
  unfold mu; rw [if_neg (fail_e he)]
theorem mu_expect (s : St) {t : Str} (ht : t ≠ []) : mu (s.expect t) ≤ mu s - 1 := by
  unfold St.expect
  split
  · rename_i h; rw [mu_adv (by rw [h]; exact ht)]; exact Nat.le_refl _
  · rw [mu_fail _ (by decide)]; exact Nat.zero_le _
theorem cls_ne {t : Str} {c : Nat} (h : cls t = c) (hc : c ≠ 0) : t ≠ [] := by rintro rfl; exact hc h.symm
theorem mu_get (s : St) {c : Nat} (hc : c ≠ 0) : mu (s.getText c).2 ≤ mu s - 1 := by
  unfold St.getText
  split
  · rename_i h; rw [mu_adv (cls_ne h hc)]; exact Nat.le_refl _
  · rw [mu_fail _ (by decide)]; exact Nat.zero_le _
theorem mu_numeral (s : St) (l h : Nat) : mu (s.numeral l h).2 ≤ mu s - 1 := by
  unfold St.numeral
  by_cases h1 : cls s.look = 4
  · rw [if_neg (by simp [h1])]
    split
    · rw [mu_fail _ (by decide)]; exact Nat.zero_le _
    · rw [mu_adv (cls_ne h1 (by decide))]; exact Nat.le_refl _
  · rw [if_pos h1, mu_fail _ (by decide)]; exact Nat.zero_le _
theorem mu_number (s : St) (l h : Nat) : mu (s.number l h).2 ≤ mu s - 1 := by
  unfold St.number
  split
  · rename_i h1
    have h2 := mu_adv (s := s) (by rw [h1]; simp)
    have := mu_numeral s.adv l h
    dsimp only
    omega
  · exact mu_numeral s l h
theorem mu_name (s : St) : mu s.name.2 ≤ mu s - 1 := mu_get s (by decide)
theorem mu_loc (s : St) : mu s.loc.2 ≤ mu s - 1 := mu_get s (by decide)
theorem mu_place (s : St) : mu s.place.2 ≤ mu s - 1 := by
  unfold St.place
  split
  · rename_i h1
    have h2 := mu_adv (s := s.name.2) (by rw [h1]; simp)
    have h3 := mu_name s
    have h4 := mu_name s.name.2.adv
    dsimp only
    omega
  · exact mu_name s
theorem LXI.expect {T : Str} {E : Nat} {s : St} (h : LXI T E s) (t : Str) : LXI T E (s.expect t) := by
  unfold St.expect; split
  · exact h.adv
  · exact h.fail 2
theorem LXI.get {T : Str} {E : Nat} {s : St} (h : LXI T E s) (c : Nat) : LXI T E (s.getText c).2 := by
  unfold St.getText; split
  · exact h.adv
  · exact h.fail 2
theorem LXI.numeral {T : Str} {E : Nat} {s : St} (h : LXI T E s) (a b : Nat) : LXI T E (s.numeral a b).2 := by
  unfold St.numeral; split
  · exact h.fail 2
  · split
    · exact h.fail 5
    · exact h.adv
theorem LXI.number {T : Str} {E : Nat} {s : St} (h : LXI T E s) (a b : Nat) : LXI T E (s.number a b).2 := by
  unfold St.number; split
  · exact h.adv.numeral a b
  · exact h.numeral a b
theorem LXI.place {T : Str} {E : Nat} {s : St} (h : LXI T E s) : LXI T E s.place.2 := by
  unfold St.place; split
  · exact (h.get 3).adv.get 3
  · exact h.get 3
/-! What is read from some fuel on. -/
theorem ev_map {α β : Type} {f : Nat → α} {v : α} (h : Ev f v) (g : α → β) : Ev (fun k => g (f k)) (g v) := Ev.then (g := fun _ x => g x) h (Ev.of fun _ => rfl)
theorem ev_uniq {α : Type} {f : Nat → α} {u v : α} (h : Ev f u) (h2 : Ev f v) : u = v := by
  obtain ⟨K, hK⟩ := h
  obtain ⟨L, hL⟩ := h2
  rw [← hK (max K L) (by omega), hL (max K L) (by omega)]
theorem ev_node {kd : Nat} {s : St} {v : Nd × St} (h : Ev (fun k => parts k kd (shape kd).parts (.mk kd [] 0 []) (if (shape kd).word = [] then s else s.expect (shape kd).word)) v) : Ev (fun k => node k kd s) v :=
  Ev.succ (Ev.eq h fun k => by rw [node])
theorem ev_nil {kd : Nat} {n : Nd} {s : St} : Ev (fun k => parts k kd [] n s) (n, s) := Ev.succ (Ev.of fun k => by rw [parts])
theorem pe_name {kd : Nat} {m : Nd} {s : St} : Ev (fun k => part k kd 110 m s) (m.setText s.name.1, s.name.2) := Ev.succ (Ev.of fun k => by rw [part, if_pos rfl])
theorem pe_loc {kd : Nat} {m : Nd} {s : St} : Ev (fun k => part k kd 108 m s) (m.setText s.loc.1, s.loc.2) := Ev.succ (Ev.of fun k => by rw [part, if_neg (by decide), if_pos rfl])
theorem pe_num {kd : Nat} {m : Nd} {s : St} : Ev (fun k => part k kd 100 m s) (m.setNum (s.numeral (shape kd).low (shape kd).high).1, (s.numeral (shape kd).low (shape kd).high).2) := Ev.succ (Ev.of fun k => by rw [part, if_neg (by decide), if_neg (by decide), if_pos rfl])
theorem pe_zed {kd : Nat} {m : Nd} {s : St} : Ev (fun k => part k kd 122 m s) (m.setNum (s.number (shape kd).low (shape kd).high).1, (s.number (shape kd).low (shape kd).high).2) := Ev.succ (Ev.of fun k => by rw [part, if_neg (by decide), if_neg (by decide), if_neg (by decide), if_pos rfl])
theorem pe_expr {kd : Nat} {m : Nd} {s : St} {r : Nd × St} (h : Ev (fun k => ops k 1 s) r) : Ev (fun k => part k kd 69 m s) (m.push r.1, r.2) :=
  Ev.succ (Ev.eq (ev_map h fun r => (m.push r.1, r.2)) fun k => by rw [part, if_neg (by decide), if_neg (by decide), if_neg (by decide), if_neg (by decide), if_pos rfl])
theorem pe_block {kd : Nat} {m : Nd} {s : St} {r : Nd × St} (h : Ev (fun k => node k 8 s) r) : Ev (fun k => part k kd 66 m s) (m.push r.1, r.2) :=
  Ev.succ (Ev.eq (ev_map h fun r => (m.push r.1, r.2)) fun k => by rw [part, if_neg (by decide), if_neg (by decide), if_neg (by decide), if_neg (by decide), if_neg (by decide), if_pos rfl])
theorem pe_local {kd : Nat} {m : Nd} {s : St} {r : Nd × St} (h : Ev (fun k => node k 33 s) r) : Ev (fun k => part k kd 76 m s) (m.push r.1, r.2) :=
  Ev.succ (Ev.eq (ev_map h fun r => (m.push r.1, r.2)) fun k => by rw [part, if_neg (by decide), if_neg (by decide), if_neg (by decide), if_neg (by decide), if_neg (by decide), if_neg (by decide), if_pos rfl])
theorem pe_place {kd : Nat} {m : Nd} {s : St} : Ev (fun k => part k kd 80 m s) (m.push s.place.1, s.place.2) :=
  Ev.succ (Ev.of fun k => by rw [part, if_neg (by decide), if_neg (by decide), if_neg (by decide), if_neg (by decide), if_neg (by decide), if_neg (by decide), if_neg (by decide), if_pos rfl])
theorem pe_else {kd : Nat} {m : Nd} {s : St} {r : Nd × St} (hl : s.look = wElse) (h : Ev (fun k => node k 8 s.adv) r) : Ev (fun k => part k kd 79 m s) (m.push r.1, r.2) :=
  Ev.succ (Ev.eq (ev_map h fun r => (m.push r.1, r.2)) fun k => by rw [part, if_neg (by decide), if_neg (by decide), if_neg (by decide), if_neg (by decide), if_neg (by decide), if_neg (by decide), if_neg (by decide), if_neg (by decide), if_pos rfl, if_pos hl])
theorem pe_noelse {kd : Nat} {m : Nd} {s : St} (hl : s.look ≠ wElse) : Ev (fun k => part k kd 79 m s) (m, s) :=
  Ev.succ (Ev.of fun k => by rw [part, if_neg (by decide), if_neg (by decide), if_neg (by decide), if_neg (by decide), if_neg (by decide), if_neg (by decide), if_neg (by decide), if_neg (by decide), if_pos rfl, if_neg hl])
theorem pe_items {kd : Nat} {m : Nd} {s : St} {r : Nd × St} (h : Ev (fun k => items k m s) r) : Ev (fun k => part k kd 73 m s) r :=
  Ev.succ (Ev.eq h fun k => by rw [part, if_neg (by decide), if_neg (by decide), if_neg (by decide), if_neg (by decide), if_neg (by decide), if_neg (by decide), if_neg (by decide), if_neg (by decide), if_neg (by decide), if_pos rfl])
theorem pe_stmts {kd : Nat} {m : Nd} {s : St} {r : Nd × St} (h : Ev (fun k => stmts k m s) r) : Ev (fun k => part k kd 83 m s) r :=
  Ev.succ (Ev.eq h fun k => by rw [part, if_neg (by decide), if_neg (by decide), if_neg (by decide), if_neg (by decide), if_neg (by decide), if_neg (by decide), if_neg (by decide), if_neg (by decide), if_neg (by decide), if_neg (by decide), if_pos rfl])
theorem pe_sign {kd : Nat} {m : Nd} {s : St} {c : UInt8} (hc : c ∉ ([110, 108, 100, 122, 69, 66, 76, 80, 79, 73, 83] : Str)) : Ev (fun k => part k kd c m s) (m, s.expect [c]) := by
  have h : ∀ d : UInt8, d ∈ ([110, 108, 100, 122, 69, 66, 76, 80, 79, 73, 83] : Str) → c ≠ d := fun d hd e => hc (by rw [e]; exact hd)
  exact Ev.succ (Ev.of fun k => by rw [part, if_neg (h _ (by decide)), if_neg (h _ (by decide)), if_neg (h _ (by decide)), if_neg (h _ (by decide)), if_neg (h _ (by decide)), if_neg (h _ (by decide)), if_neg (h _ (by decide)), if_neg (h _ (by decide)), if_neg (h _ (by decide)), if_neg (h _ (by decide)), if_neg (h _ (by decide))])
theorem ev_items {m : Nd} {s : St} {r v : Nd × St} (hc : cls s.look = 3) (h : Ev (fun k => node k 7 s) r) (h2 : Ev (fun k => items k (m.push r.1) r.2) v) : Ev (fun k => items k m s) v :=
  Ev.succ (Ev.eq (Ev.then (g := fun k (r : Nd × St) => items k (m.push r.1) r.2) h h2) fun k => by rw [items, if_pos hc])
theorem ev_items_end {m : Nd} {s : St} (hc : cls s.look ≠ 3) : Ev (fun k => items k m s) (m, s) := Ev.succ (Ev.of fun k => by rw [items, if_neg hc])
theorem ev_stmts {m : Nd} {s : St} {r v : Nd × St} (hc : s.stmtHere ≠ -1) (h : Ev (fun k => node k s.stmtHere.toNat s) r) (h2 : Ev (fun k => stmts k (m.push r.1) r.2) v) : Ev (fun k => stmts k m s) v :=
  Ev.succ (Ev.eq (Ev.then (g := fun k (r : Nd × St) => stmts k (m.push r.1) r.2) h h2) fun k => by rw [stmts, if_pos hc])
theorem ev_stmts_end {m : Nd} {s : St} (hc : s.stmtHere = -1) : Ev (fun k => stmts k m s) (m, s) := Ev.succ (Ev.of fun k => by rw [stmts, if_neg (by simp [hc])])
theorem ev_ops {lv : Nat} {s : St} {r v : Nd × St} (hlv : lv ≠ 4) (h : Ev (fun k => ops k (lv + 1) s) r) (h2 : Ev (fun k => opsMore k lv r.1 r.2) v) : Ev (fun k => ops k lv s) v :=
  Ev.succ (Ev.eq (Ev.then (g := fun k (r : Nd × St) => opsMore k lv r.1 r.2) h h2) fun k => by rw [ops, if_neg hlv])
theorem ev_more_end {lv : Nat} {n : Nd} {s : St} (h : (opOf s.look).1 ≠ lv) : Ev (fun k => opsMore k lv n s) (n, s) := Ev.succ (Ev.of fun k => by rw [opsMore, if_neg h])
theorem ev_more_one {n : Nd} {s : St} {r : Nd × St} (h : (opOf s.look).1 = 1) (h2 : Ev (fun k => ops k 2 s.adv) r) : Ev (fun k => opsMore k 1 n s) (.mk (opOf s.look).2 [] 0 [n, r.1], r.2) :=
  Ev.succ (Ev.eq (ev_map h2 fun r => (Nd.mk (opOf s.look).2 [] 0 [n, r.1], r.2)) fun k => by rw [opsMore, if_pos h, if_pos rfl])
theorem ev_more {lv : Nat} {n : Nd} {s : St} {r v : Nd × St} (h : (opOf s.look).1 = lv) (h1 : lv ≠ 1) (h2 : Ev (fun k => ops k (lv + 1) s.adv) r) (h3 : Ev (fun k => opsMore k lv (.mk (opOf s.look).2 [] 0 [n, r.1]) r.2) v) : Ev (fun k => opsMore k lv n s) v :=
  Ev.succ (Ev.eq (Ev.then (g := fun k (r : Nd × St) => opsMore k lv (.mk (opOf s.look).2 [] 0 [n, r.1]) r.2) h2 h3) fun k => by rw [opsMore, if_pos h, if_neg h1])
theorem ev_fact_num {s : St} {r : Nd × St} (h : cls s.look = 4) (h2 : Ev (fun k => node k 32 s) r) : Ev (fun k => ops k 4 s) r := Ev.succ (Ev.eq h2 fun k => by rw [ops, if_pos rfl, if_pos h])
theorem ev_fact_loc {s : St} {r : Nd × St} (h : cls s.look = 5) (h2 : Ev (fun k => node k 33 s) r) : Ev (fun k => ops k 4 s) r := Ev.succ (Ev.eq h2 fun k => by rw [ops, if_pos rfl, if_neg (by omega), if_pos h])
theorem ev_fact_par {s : St} {r : Nd × St} (h : s.look = [40]) (h2 : Ev (fun k => ops k 1 s.adv) r) : Ev (fun k => ops k 4 s) (r.1, r.2.expect [41]) :=
  Ev.succ (Ev.eq (ev_map h2 fun r => (r.1, r.2.expect [41])) fun k => by rw [ops, if_pos rfl, if_neg (by rw [h]; decide), if_neg (by rw [h]; decide), if_pos h])
theorem ev_fact_kind {s : St} {r : Nd × St} (h4 : cls s.look ≠ 4) (h5 : cls s.look ≠ 5) (hp : s.look ≠ [40]) (h : s.kindHere 36 36 = 36) (h2 : Ev (fun k => node k 36 s) r) : Ev (fun k => ops k 4 s) r :=
  Ev.succ (Ev.eq h2 fun k => by rw [ops, if_pos rfl, if_neg h4, if_neg h5, if_neg hp, if_pos h])
theorem ev_fact_place {s : St} (h4 : cls s.look ≠ 4) (h5 : cls s.look ≠ 5) (hp : s.look ≠ [40]) (h : s.kindHere 36 36 ≠ 36) : Ev (fun k => ops k 4 s) s.place :=
  Ev.succ (Ev.of fun k => by rw [ops, if_pos rfl, if_neg h4, if_neg h5, if_neg hp, if_neg h])
end Src
end Go.Proofs.YtpbhgebblpdmnaaDoor
