/-
  The generator: how long the texts of its trees are, and that these are right.
  Plain mathematics: no condition.
-/
import Derived.Test.YtpbhgebblpdmnaaDoorSrc
namespace Go.Proofs.YtpbhgebblpdmnaaDoor
open Src
set_option linter.unusedVariables false
namespace Src
def calledL : List Str := [[97], [98], [120], [98, 111, 120], [113], [119, 50], [99, 104, 101, 99, 107, 115], [108, 111, 110, 103, 101, 115, 116, 110, 97, 109, 101, 49, 50, 51, 52, 53]]
theorem called_ok : ∀ t ∈ calledL, nameOk t ∧ t.length ≤ 16 := by
 have h : ∀ t ∈ calledL, ((cls t = 3 ∧ wordLen t = t.length)) ∧ t.length ≤ 16 := by decide
 intro t ht
 exact ⟨(h t ht).1, (h t ht).2⟩
def ownL : List Str := [[97], [105], [114, 101, 97, 100], [108, 111, 110, 103, 101, 115, 116, 108, 111, 99, 97, 108, 49, 50, 51, 52]]
theorem own_ok : ∀ t ∈ ownL, wordOk t ∧ t.length ≤ 16 := by
 have h : ∀ t ∈ ownL, (t ≠ [] ∧ wordLen t = t.length) ∧ t.length ≤ 16 := by decide
 intro t ht
 exact ⟨(h t ht).1, (h t ht).2⟩
def tc (l : List Str) : Nat := (l.map (fun t => t.length + 1)).sum
theorem tc_nil : tc [] = 0 := rfl
theorem tc_cons (t : Str) (l : List Str) : tc (t :: l) = t.length + 1 + tc l := by simp [tc]
theorem tc_app (a b : List Str) : tc (a ++ b) = tc a + tc b := by simp [tc]
theorem spt_tc : ∀ (l : List Str) (x : Str), (spt x l).length ≤ x.length + tc l
 | [], x => by rw [spt, tc_nil]; omega
 | t :: l, x => by
  have h1 := spt_tc l (sep x t ++ t)
  have h2 : (sep x t).length ≤ x.length + 1 := by unfold sep; split <;> simp
  rw [spt, tc_cons]; rw [List.length_append] at h1; omega
theorem txt_tc (d : Nat) (n : Nd) : (txt d n).length ≤ tc (tk d n) := by
 have := spt_tc (tk d n) []
 simpa [txt] using this
def Cst (N i j C c : Nat) : Prop := (j ≤ N → c + 14 * (N - j) ≤ 14 * (N - i)) ∧ (N < j → c + 14 * (N - j) ≤ 14 * (N - i) + C)
def xc (e : Nat) (n : Nd) : Nat := tc (tk e n) + (if 26 ≤ n.kind ∧ n.kind ≤ 31 then 4 else 0)
theorem opd_tc (e least : Nat) (n : Nd) (hl : least ≤ 4) : tc (opd (tk e) least n) ≤ xc e n := by
 unfold opd xc
 split
 ·
  omega
 ·
  rename_i h
  split
  ·
   rw [tc_app, tc_app, tc_cons, tc_cons, tc_nil]; simp only [List.length_cons, List.length_nil]; omega
  ·
   rename_i h2
   exact absurd (by rw [lvl_leaf h2]; exact hl) h
def Kv : Nat → Nat | 0 => 4 | d + 1 => 1 + 2 * Kv d
def Ko : Nat → Nat | 0 => 23 | d + 1 => 13 + 6 * Ko d
def Co : Nat → Nat | 0 => 8 | d + 1 => 4 + 2 * Co d
theorem Kv_4 : ∀ d, 4 ≤ Kv d
 | 0 => Nat.le_refl _
 | d + 1 => by have := Kv_4 d; rw [Kv]; omega
theorem Co_8 : ∀ d, 8 ≤ Co d
 | 0 => Nat.le_refl _
 | d + 1 => by have := Co_8 d; rw [Co]; omega
theorem Ko_23 : ∀ d, 23 ≤ Ko d
 | 0 => Nat.le_refl _
 | d + 1 => by have := Ko_23 d; rw [Ko]; omega
theorem two_pow (d : Nat) : 2 ≤ 2 ^ (d + 1) := by
 have : 0 < 2 ^ d := Nat.pow_pos (by omega)
 rw [Nat.pow_succ]; omega
structure XG (N i d : Nat) (n : Nd) (j : Nat) : Prop where
 e : isExpr n.kind
 r : rt (d + 1) n
 c : ∀ e, d + 1 ≤ e → Cst N i j (2 ^ (d + 1)) (xc e n)
 lo : i < j
 hi : j ≤ i + Kv d
theorem rt_mk {d k : Nat} {t : Str} {z : Int} {l : List Nd} (hk : k < 37) (hn : ¬ (26 ≤ k ∧ k ≤ 31)) (ht : textOk (k : Int) (shape k).parts t) (hz : numOk (shape k) z) (hl : kidsOk (rt d) (shape k).parts l) : rt (d + 1) (.mk (k : Int) t z l) := by
 rw [rt, if_neg (by simp only [Nd.kind]; omega)]
 exact ⟨by simp only [Nd.kind]; omega, by simp only [Nd.kind]; omega, ht, hz, hl⟩
theorem tk_mk {e k : Nat} {t : Str} {z : Int} {l : List Nd} (hn : ¬ (26 ≤ k ∧ k ≤ 31)) : tk (e + 1) (.mk (k : Int) t z l) = wordT k ++ partsT (tk e) (.mk (k : Int) t z l) (shape k).parts l := by
 have := tk_leaf (d := e) (n := .mk (k : Int) t z l) (sign_leaf (by dsimp only [Nd.kind]; omega))
 exact this
theorem decZ_len {z : Int} (h : -999 ≤ z) (h2 : z ≤ 999) : (decZ z).length ≤ 4 := by
 have := decD_len z.natAbs (by omega)
 unfold decZ; split
 ·
  simp; omega
 ·
  omega
theorem decZ_len3 {z : Int} (h : 0 ≤ z) (h2 : z ≤ 999) : (decZ z).length ≤ 3 := by
 have := decD_len z.natAbs (by omega)
 unfold decZ; rw [if_neg (by omega)]; exact this
theorem e_succ {d e : Nat} (h : d + 1 ≤ e) : ∃ f, e = f + 1 ∧ d ≤ f := ⟨e - 1, by omega, by omega⟩
theorem tk32 {e : Nat} {t : Str} {z : Int} : tk (e + 1) (.mk 32 t z []) = [decZ z] := by
 refine (tk_mk (k := 32) (by omega)).trans ?_
 rw [show wordT 32 = [] by decide, show (shape 32).parts = [100] by decide]
 simp [partsT, partT, Nd.num]
theorem tk33 {e : Nat} {t : Str} {z : Int} : tk (e + 1) (.mk 33 t z []) = [36 :: t] := by
 refine (tk_mk (k := 33) (by omega)).trans ?_
 rw [show wordT 33 = [] by decide, show (shape 33).parts = [108] by decide]
 simp [partsT, partT, Nd.text]
theorem tk34 {e : Nat} {t : Str} {z : Int} : tk (e + 1) (.mk 34 t z []) = [t] := by
 refine (tk_mk (k := 34) (by omega)).trans ?_
 rw [show wordT 34 = [] by decide, show (shape 34).parts = [110] by decide]
 simp [partsT, partT, Nd.text]
theorem tk35 {e : Nat} {t : Str} {z : Int} : tk (e + 1) (.mk 35 t z []) = [t] := by
 refine (tk_mk (k := 35) (by omega)).trans ?_
 rw [show wordT 35 = [] by decide, show (shape 35).parts = [110] by decide]
 simp [partsT, partT, Nd.text]
theorem tk36 {e : Nat} {t : Str} {z : Int} : tk (e + 1) (.mk 36 t z []) = [wKind] := by
 refine (tk_mk (k := 36) (by omega)).trans ?_
 rw [show wordT 36 = [wKind] by decide, show (shape 36).parts = [] by decide]
 simp [partsT]
theorem kidsOk_nil {P : Nd → Prop} {c : UInt8} (h : c = 100 ∨ c = 108 ∨ c = 110) : kidsOk P [c] [] := by
 rcases h with rfl | rfl | rfl <;> simp [kidsOk]
theorem rt32 {z : Int} (h0 : 0 ≤ z) (h1 : z ≤ 999) (d : Nat) : rt (d + 1) (.mk 32 [] z []) :=
 rt_mk (k := 32) (by omega) (by omega) (by rw [show (shape 32).parts = [100] by decide]; unfold textOk; rw [if_neg (by decide), if_neg (by decide), if_neg (by decide)]) (by unfold numOk; rw [show (shape 32).parts = [100] by decide, show (shape 32).low = 0 by decide, show (shape 32).high = 999 by decide, if_pos (by decide)]; omega) (by rw [show (shape 32).parts = [100] by decide]; exact kidsOk_nil (Or.inl rfl))
theorem rt33 {t : Str} (h : wordOk t) (d : Nat) : rt (d + 1) (.mk 33 t 0 []) :=
 rt_mk (k := 33) (by omega) (by omega) (by rw [show (shape 33).parts = [108] by decide]; unfold textOk; rw [if_neg (by decide), if_neg (by decide), if_pos (by decide)]; exact h) (by unfold numOk; rw [show (shape 33).parts = [108] by decide, if_neg (by decide), if_neg (by decide)]) (by rw [show (shape 33).parts = [108] by decide]; exact kidsOk_nil (by simp))
theorem rt34 {t : Str} (h : nameOk t) (d : Nat) : rt (d + 1) (.mk 34 t 0 []) :=
 rt_mk (k := 34) (by omega) (by omega) (by rw [show (shape 34).parts = [110] by decide]; unfold textOk; rw [if_neg (by decide), if_pos (by decide)]; exact h) (by unfold numOk; rw [show (shape 34).parts = [110] by decide, if_neg (by decide), if_neg (by decide)]) (by rw [show (shape 34).parts = [110] by decide]; exact kidsOk_nil (by simp))
theorem rt35 {a b : Str} (h : nameOk a) (h2 : nameOk b) (d : Nat) : rt (d + 1) (.mk 35 (a ++ 46 :: b) 0 []) :=
 rt_mk (k := 35) (by omega) (by omega) (by unfold textOk; rw [if_pos (by decide)]; exact ⟨a, b, rfl, h, h2⟩) (by unfold numOk; rw [show (shape 35).parts = [110] by decide, if_neg (by decide), if_neg (by decide)]) (by rw [show (shape 35).parts = [110] by decide]; exact kidsOk_nil (by simp))
theorem rt36 (d : Nat) : rt (d + 1) (.mk 36 [] 0 []) :=
 rt_mk (k := 36) (by omega) (by omega) (by rw [show (shape 36).parts = [] by decide]; unfold textOk; rw [if_neg (by decide), if_neg (by decide), if_neg (by decide)]) (by unfold numOk; rw [show (shape 36).parts = [] by decide, if_neg (by decide), if_neg (by decide)]) (by rw [show (shape 36).parts = [] by decide]; simp [kidsOk])
theorem xc_leaf {e : Nat} {n : Nd} (h : ¬ (26 ≤ n.kind ∧ n.kind ≤ 31)) : xc e n = tc (tk e n) := by unfold xc; rw [if_neg h]; omega
theorem tc_one (t : Str) : tc [t] = t.length + 1 := by rw [tc_cons, tc_nil]
theorem xg_num {N i d : Nat} {z : Int} (h0 : 0 ≤ z) (h1 : z ≤ 999) (hz : N ≤ i + 1 → z = 0) : XG N i d (.mk 32 [] z []) (i + 2) := by
 refine ⟨by dsimp only [isExpr, Nd.kind]; omega, rt32 h0 h1 d, fun e he => ?_, by omega, by have := Kv_4 d; omega⟩
 obtain ⟨f, rfl, _⟩ := e_succ he
 rw [xc_leaf (by dsimp only [Nd.kind]; omega), tk32, tc_one]
 have h3 := decZ_len3 h0 h1
 have h2 := two_pow d
 have h4 : N ≤ i + 1 → (decZ z).length = 1 := fun h => by rw [hz h]; simp [decZ, decD]
 constructor <;> intro hj
 ·
  omega
 ·
  have := h4 (by omega); omega
theorem xg_local {N i d : Nat} {t : Str} (ht : t ∈ ownL) (hi : i < N) (hz : N ≤ i + 1 → t = [97]) : XG N i d (.mk 33 t 0 []) (i + 2) := by
 refine ⟨by dsimp only [isExpr, Nd.kind]; omega, rt33 (own_ok t ht).1 d, fun e he => ?_, by omega, by have := Kv_4 d; omega⟩
 obtain ⟨f, rfl, _⟩ := e_succ he
 rw [xc_leaf (by dsimp only [Nd.kind]; omega), tk33, tc_one, List.length_cons]
 have h3 := (own_ok t ht).2
 have h2 := two_pow d
 have h4 : N ≤ i + 1 → t.length = 1 := fun h => by rw [hz h]; rfl
 constructor <;> intro hj
 ·
  omega
 ·
  have := h4 (by omega); omega
def AtF (N : Nat) (i : Nat) (n : Nd) (j : Nat) : Prop :=
 (∃ t, t ∈ calledL ∧ (N ≤ i + 1 → t = [97]) ∧ i < N ∧ n = .mk 34 t 0 [] ∧ j = i + 2) ∨
 (∃ t u, t ∈ calledL ∧ u ∈ calledL ∧ (N ≤ i + 1 → t = [97]) ∧ (N ≤ i + 2 → u = [97]) ∧ n = .mk 35 (t ++ 46 :: u) 0 [] ∧ j = i + 3)
structure PG (N i : Nat) (n : Nd) (j : Nat) : Prop where
 k : n.kind = 34 ∨ n.kind = 35
 r : ∀ d, rt (d + 1) n
 c : ∀ e, Cst N i j 4 (tc (tk (e + 1) n)) ∧ (i < N → Cst N i j 0 (tc (tk (e + 1) n))) ∧ tc (tk (e + 1) n) ≤ 34 ∧ (N ≤ i + 1 → tc (tk (e + 1) n) ≤ 19) ∧ (N ≤ i → tc (tk (e + 1) n) ≤ 4) ∧ (N ≤ i + 2 → tc (tk (e + 1) n) ≤ 19)
 lo : i + 2 ≤ j
 hi : j ≤ i + 3
theorem atf_pg {N i j : Nat} {n : Nd} (h : AtF N i n j) : PG N i n j := by
 rcases h with ⟨t, ht, ha, hi, rfl, rfl⟩ | ⟨t, u, ht, hu, ha, hb, rfl, rfl⟩
 ·
  have h3 := (called_ok t ht).2
  have h4 : N ≤ i + 1 → t.length = 1 := fun h => by rw [ha h]; rfl
  refine ⟨Or.inl rfl, fun d => rt34 (called_ok t ht).1 d, fun e => ?_, by omega, by omega⟩
  rw [tk34, tc_one]
  refine ⟨⟨fun hj => by omega, fun hj => ?_⟩, fun _ => ⟨fun hj => by omega, fun hj => ?_⟩, by omega, fun h => by omega, fun h => by omega, fun h => by omega⟩
  ·
   have := h4 (by omega); omega
  ·
   have := h4 (by omega); omega
 ·
  have h3 := (called_ok t ht).2
  have h5 := (called_ok u hu).2
  have h4 : N ≤ i + 1 → t.length = 1 := fun h => by rw [ha h]; rfl
  have h6 : N ≤ i + 2 → u.length = 1 := fun h => by rw [hb h]; rfl
  refine ⟨Or.inr rfl, fun d => rt35 (called_ok t ht).1 (called_ok u hu).1 d, fun e => ?_, by omega, by omega⟩
  rw [tk35, tc_one, List.length_append, List.length_cons]
  refine ⟨⟨fun hj => by omega, fun hj => ?_⟩, fun hi => ⟨fun hj => by omega, fun hj => ?_⟩, by omega, fun h => by have := h4 h; omega, fun h => by have := h4 (by omega); have := h6 (by omega); omega, fun h => by have := h6 (by omega); omega⟩
  ·
   have := h6 (by omega)
   rcases Nat.lt_or_ge (i + 1) N with h | h
   ·
    omega
   ·
    have := h4 h; omega
  ·
   have := h6 (by omega)
   rcases Nat.lt_or_ge (i + 1) N with h | h
   ·
    omega
   ·
    have := h4 h; omega
theorem xg_at {N i d j : Nat} {n : Nd} (h : AtF N (i + 1) n j) (hi : i < N) : XG N i d n j := by
 have hp := atf_pg h
 refine ⟨by have := hp.k; dsimp only [isExpr]; omega, hp.r d, fun e he => ?_, by have := hp.lo; omega, by have := hp.hi; have := Kv_4 d; omega⟩
 obtain ⟨f, rfl, _⟩ := e_succ he
 rw [xc_leaf (by have := hp.k; omega)]
 obtain ⟨⟨h1, h1'⟩, _, _, _, h2, _⟩ := hp.c f
 have h3 := two_pow d
 constructor <;> intro hj
 ·
  have := h1 hj; omega
 ·
  have := h1' hj; omega
theorem xg_kind {N i d : Nat} (hi : i < N) : XG N i d (.mk 36 [] 0 []) (i + 1) := by
 refine ⟨by dsimp only [isExpr, Nd.kind]; omega, rt36 d, fun e he => ?_, by omega, by have := Kv_4 d; omega⟩
 obtain ⟨f, rfl, _⟩ := e_succ he
 rw [xc_leaf (by dsimp only [Nd.kind]; omega), tk36, tc_one]
 have : wKind.length = 4 := rfl
 have h3 := two_pow d
 constructor <;> intro hj <;> omega
theorem sign_len : ∀ k : Nat, 26 ≤ k → k ≤ 31 → (signOf (k : Int)).1 ≠ 0 ∧ (signOf (k : Int)).1 ≤ 3 ∧ (signOf (k : Int)).2.length ≤ 2 := by
 intro k h1 h2
 obtain ⟨m, rfl⟩ : ∃ m, k = 26 + m := ⟨k - 26, by omega⟩
 have : ∀ m, m < 6 → (signOf ((26 + m : Nat) : Int)).1 ≠ 0 ∧ (signOf ((26 + m : Nat) : Int)).1 ≤ 3 ∧ (signOf ((26 + m : Nat) : Int)).2.length ≤ 2 := by decide
 exact this m (by omega)
theorem xg_op {N i d j1 j2 : Nat} {a b : Nd} {k : Nat} (hk : 26 ≤ k) (hk2 : k ≤ 31) (hi : i < N) (ha : XG N (i + 1) d a j1) (hb : XG N j1 d b j2) : XG N i (d + 1) (.mk (k : Int) [] 0 [a, b]) j2 := by
 refine ⟨by dsimp only [isExpr, Nd.kind]; omega, ?_, fun e he => ?_, by have := ha.lo; have := hb.lo; omega, by have := ha.hi; have := hb.hi; rw [Kv]; omega⟩
 ·
  rw [rt, if_pos (by simp only [Nd.kind]; omega)]
  exact ⟨rfl, rfl, a, b, rfl, ha.e, hb.e, ha.r, hb.r⟩
 ·
  obtain ⟨f, rfl, hf⟩ := e_succ he
  obtain ⟨s1, s2, s3⟩ := sign_len k hk hk2
  have e1 : tk (f + 1) (.mk (k : Int) [] 0 [a, b]) = opd (tk f) (if (signOf (k : Int)).1 = 1 then 2 else (signOf (k : Int)).1) a ++ (signOf (k : Int)).2 :: opd (tk f) ((signOf (k : Int)).1 + 1) b := by
   rw [tk, if_pos (by exact s1)]; rfl
  have e2 : xc (f + 1) (.mk (k : Int) [] 0 [a, b]) = tc (tk (f + 1) (.mk (k : Int) [] 0 [a, b])) + 4 := by
   unfold xc; rw [if_pos (by dsimp only [Nd.kind]; omega)]
  rw [e2, e1, tc_app, tc_cons]
  have o1 := opd_tc f (if (signOf (k : Int)).1 = 1 then 2 else (signOf (k : Int)).1) a (by split <;> omega)
  have o2 := opd_tc f ((signOf (k : Int)).1 + 1) b (by omega)
  obtain ⟨a1, a2⟩ := ha.c f hf
  obtain ⟨b1, b2⟩ := hb.c f hf
  have := ha.lo; have := hb.lo
  rw [Nat.pow_succ] at a2 b2
  constructor <;> intro hj
  ·
   have := a1 (by omega); have := b1 hj; omega
  ·
   rw [Nat.pow_succ, Nat.pow_succ]
   have := b2 hj
   rcases Nat.lt_or_ge N j1 with h | h
   ·
    have := a2 h; omega
   ·
    have := a1 h; omega
/-! Statements. -/
theorem tc_flat {f : Nd → List Str} (l m : List Nd) : tc ((l ++ m).flatMap f) = tc (l.flatMap f) + tc (m.flatMap f) := by rw [List.flatMap_append, tc_app]
structure SG (N i d : Nat) (n : Nd) (j : Nat) : Prop where
 k : 9 ≤ n.kind ∧ n.kind ≤ 25
 r : rt (2 * d + 4) n
 c : ∀ e, 2 * d + 4 ≤ e → Cst N i j (Co d) (tc (tk e n))
 lo : i < j
 hi : j ≤ i + Ko d
structure BG (N i d : Nat) (n : Nd) (j : Nat) : Prop where
 k : n.kind = 8
 r : rt (2 * d + 5) n
 c : ∀ e, 2 * d + 5 ≤ e → Cst N i j (Co d) (tc (tk e n))
 lo : i < j
 hi : j ≤ i + (1 + 3 * Ko d)
structure BP (N i d : Nat) (l : List Nd) (j : Nat) : Prop where
 k : ∀ x ∈ l, 9 ≤ x.kind ∧ x.kind ≤ 25 ∧ rt (2 * d + 4) x
 c : ∀ e, 2 * d + 4 ≤ e → Cst N i j (Co d) (4 + tc (l.flatMap (tk e)))
 lo : i < j
 hi : j ≤ i + (1 + l.length * Ko d)
theorem bp_start (N i d : Nat) : BP N i d [] (i + 1) := by
 refine ⟨fun x hx => by simp at hx, fun e he => ?_, by omega, by simp⟩
 have := Co_8 d
 simp only [List.flatMap_nil, tc_nil]
 constructor <;> intro hj <;> omega
theorem bp_step {N i d j j2 : Nat} {l : List Nd} {n : Nd} (h : BP N i d l j) (hj : j < N) (hs : SG N j d n j2) : BP N i d (l ++ [n]) j2 := by
 refine ⟨fun x hx => ?_, fun e he => ?_, by have := h.lo; have := hs.lo; omega, ?_⟩
 ·
  rcases List.mem_append.1 hx with hx | hx
  ·
   exact h.k x hx
  ·
   rw [List.mem_singleton] at hx; subst hx; exact ⟨hs.k.1, hs.k.2, hs.r⟩
 ·
  rw [tc_flat]
  obtain ⟨a1, _⟩ := h.c e he
  obtain ⟨b1, b2⟩ := hs.c e he
  have := a1 (by omega)
  simp only [List.flatMap_cons, List.flatMap_nil, List.append_nil]
  constructor <;> intro hq
  ·
   have := b1 hq; omega
  ·
   have := b2 hq; omega
 ·
  have := h.hi; have := hs.hi
  rw [List.length_append, Nat.add_mul]; simp only [List.length_cons, List.length_nil]; omega
theorem tk8 {e : Nat} {t : Str} {z : Int} {l : List Nd} : tk (e + 1) (.mk 8 t z l) = [123] :: (l.flatMap (tk e) ++ [[125]]) := by
 refine (tk_mk (k := 8) (by omega)).trans ?_
 rw [show wordT 8 = [] by decide, show (shape 8).parts = [123, 83, 125] by decide]
 simp [partsT, partT]
theorem rt8 {d : Nat} {l : List Nd} (h : ∀ x ∈ l, 9 ≤ x.kind ∧ x.kind ≤ 25 ∧ rt d x) : rt (d + 1) (.mk 8 [] 0 l) :=
 rt_mk (k := 8) (by omega) (by omega) (by rw [show (shape 8).parts = [123, 83, 125] by decide]; unfold textOk; rw [if_neg (by decide), if_neg (by decide), if_neg (by decide)]) (by unfold numOk; rw [show (shape 8).parts = [123, 83, 125] by decide, if_neg (by decide), if_neg (by decide)]) (by rw [show (shape 8).parts = [123, 83, 125] by decide]; simp only [kidsOk]; simpa using h)
theorem bp_block {N i d j : Nat} {l : List Nd} (h : BP N i d l j) (hl : l.length ≤ 3) : BG N i d (.mk 8 [] 0 l) j := by
 refine ⟨rfl, rt8 h.k, fun e he => ?_, h.lo, by have := h.hi; have := Nat.mul_le_mul_right (Ko d) hl; omega⟩
 obtain ⟨f, rfl, hf⟩ := e_succ (d := 2 * d + 4) he
 rw [tk8, tc_cons, tc_app, tc_one]
 have := h.c f hf
 simp only [List.length_cons, List.length_nil]
 unfold Cst at this ⊢
 omega
/-! Statements' tokens, and that they are right. -/
theorem tk9 {e : Nat} {t : Str} {z : Int} {a : Nd} : tk (e + 1) (.mk 9 t z [a]) = (36 :: t) :: [61] :: (tk e a ++ [[59]]) := by
 refine (tk_mk (k := 9) (by omega)).trans ?_
 rw [show wordT 9 = [] by decide, show (shape 9).parts = [108, 61, 69, 59] by decide]
 simp [partsT, partT, Nd.text]
theorem tk10 {e : Nat} {t : Str} {z : Int} {a b : Nd} : tk (e + 1) (.mk 10 t z [a, b]) = tk e a ++ [61] :: (tk e b ++ [[59]]) := by
 refine (tk_mk (k := 10) (by omega)).trans ?_
 rw [show wordT 10 = [] by decide, show (shape 10).parts = [80, 61, 69, 59] by decide]
 simp [partsT, partT, Nd.text]
theorem tk11 {e : Nat} {t : Str} {z : Int} {a b : Nd} : tk (e + 1) (.mk 11 t z [a, b]) = [105, 102] :: (tk e a ++ tk e b) := by
 refine (tk_mk (k := 11) (by omega)).trans ?_
 rw [show wordT 11 = [[105, 102]] by decide, show (shape 11).parts = [69, 66, 79] by decide]
 simp [partsT, partT, Nd.text]
theorem tk11e {e : Nat} {t : Str} {z : Int} {a b c : Nd} : tk (e + 1) (.mk 11 t z [a, b, c]) = [105, 102] :: (tk e a ++ tk e b ++ wElse :: tk e c) := by
 refine (tk_mk (k := 11) (by omega)).trans ?_
 rw [show wordT 11 = [[105, 102]] by decide, show (shape 11).parts = [69, 66, 79] by decide]
 simp [partsT, partT, Nd.text]
theorem tk12 {e : Nat} {t : Str} {z : Int} {a b : Nd} : tk (e + 1) (.mk 12 t z [a, b]) = [119, 104, 105, 108, 101] :: (tk e a ++ tk e b) := by
 refine (tk_mk (k := 12) (by omega)).trans ?_
 rw [show wordT 12 = [[119, 104, 105, 108, 101]] by decide, show (shape 12).parts = [69, 66] by decide]
 simp [partsT, partT, Nd.text]
theorem tkN {k e : Nat} (hk : k = 13 ∨ k = 14 ∨ k = 17 ∨ k = 18) {t : Str} {z : Int} : ∃ w, w.length ≤ 7 ∧ tk (e + 1) (.mk (k : Int) t z []) = [w, t, [59]] := by
 refine ⟨(shape k).word, by rcases hk with rfl | rfl | rfl | rfl <;> decide, ?_⟩
 rw [tk_mk (by omega)]
 have h1 : wordT k = [(shape k).word] := by rcases hk with rfl | rfl | rfl | rfl <;> decide
 have h2 : (shape k).parts = [110, 59] := by rcases hk with rfl | rfl | rfl | rfl <;> decide
 rw [h1, h2]; simp [partsT, partT, Nd.text]
theorem tkNE {k e : Nat} (hk : k = 15 ∨ k = 22) {t : Str} {z : Int} {a : Nd} : ∃ w, w.length ≤ 5 ∧ tk (e + 1) (.mk (k : Int) t z [a]) = w :: t :: (tk e a ++ [[59]]) := by
 refine ⟨(shape k).word, by rcases hk with rfl | rfl <;> decide, ?_⟩
 rw [tk_mk (by omega)]
 have h1 : wordT k = [(shape k).word] := by rcases hk with rfl | rfl <;> decide
 have h2 : (shape k).parts = [110, 69, 59] := by rcases hk with rfl | rfl <;> decide
 rw [h1, h2]; simp [partsT, partT, Nd.text]
theorem tkNL {k e : Nat} (hk : k = 16 ∨ k = 23) {t : Str} {z : Int} {a : Nd} : ∃ w, w.length ≤ 4 ∧ tk (e + 1) (.mk (k : Int) t z [a]) = w :: t :: (tk e a ++ [[59]]) := by
 refine ⟨(shape k).word, by rcases hk with rfl | rfl <;> decide, ?_⟩
 rw [tk_mk (by omega)]
 have h1 : wordT k = [(shape k).word] := by rcases hk with rfl | rfl <;> decide
 have h2 : (shape k).parts = [110, 76, 59] := by rcases hk with rfl | rfl <;> decide
 rw [h1, h2]; simp [partsT, partT, Nd.text]
theorem tk19 {e : Nat} {t : Str} {z : Int} : tk (e + 1) (.mk 19 t z []) = [[100, 114, 97, 119], 36 :: t, decZ z, [59]] := by
 refine (tk_mk (k := 19) (by omega)).trans ?_
 rw [show wordT 19 = [[100, 114, 97, 119]] by decide, show (shape 19).parts = [108, 100, 59] by decide]
 simp [partsT, partT, Nd.text, Nd.num]
theorem tk20 {e : Nat} {t : Str} {z : Int} : tk (e + 1) (.mk 20 t z []) = [[110, 111, 119], 36 :: t, [59]] := by
 refine (tk_mk (k := 20) (by omega)).trans ?_
 rw [show wordT 20 = [[110, 111, 119]] by decide, show (shape 20).parts = [108, 59] by decide]
 simp [partsT, partT, Nd.text, Nd.num]
theorem tkD {k e : Nat} (hk : k = 21 ∨ k = 25) {t : Str} {z : Int} : ∃ w, w.length ≤ 5 ∧ tk (e + 1) (.mk (k : Int) t z []) = [w, decZ z, [59]] := by
 refine ⟨(shape k).word, by rcases hk with rfl | rfl <;> decide, ?_⟩
 rw [tk_mk (by omega)]
 have h1 : wordT k = [(shape k).word] := by rcases hk with rfl | rfl <;> decide
 have h2 : (shape k).parts = [100, 59] := by rcases hk with rfl | rfl <;> decide
 rw [h1, h2]; simp [partsT, partT, Nd.num]
theorem tk24 {e : Nat} {t : Str} {z : Int} {a : Nd} : tk (e + 1) (.mk 24 t z [a]) = [99, 104, 101, 99, 107] :: (tk e a ++ [[59]]) := by
 refine (tk_mk (k := 24) (by omega)).trans ?_
 rw [show wordT 24 = [[99, 104, 101, 99, 107]] by decide, show (shape 24).parts = [69, 59] by decide]
 simp [partsT, partT, Nd.text]
section
variable {d : Nat} {P : Nd → Prop}
theorem text_none {k : Nat} (hk : k < 37) (h35 : k ≠ 35) (h : ¬ ((110 : UInt8) ∈ (shape k).parts) ∧ ¬ ((108 : UInt8) ∈ (shape k).parts)) : textOk (k : Int) (shape k).parts [] := by
 unfold textOk; rw [if_neg (by omega), if_neg h.1, if_neg h.2]
theorem text_name {k : Nat} (h35 : k ≠ 35) {t : Str} (h : (110 : UInt8) ∈ (shape k).parts) (ht : nameOk t) : textOk (k : Int) (shape k).parts t := by
 unfold textOk; rw [if_neg (by omega), if_pos h]; exact ht
theorem text_word {k : Nat} (h35 : k ≠ 35) {t : Str} (h : ¬ ((110 : UInt8) ∈ (shape k).parts)) (h2 : (108 : UInt8) ∈ (shape k).parts) (ht : wordOk t) : textOk (k : Int) (shape k).parts t := by
 unfold textOk; rw [if_neg (by omega), if_neg h, if_pos h2]; exact ht
theorem num_none {k : Nat} (h : ¬ ((100 : UInt8) ∈ (shape k).parts) ∧ ¬ ((122 : UInt8) ∈ (shape k).parts)) : numOk (shape k) 0 := by
 unfold numOk; rw [if_neg h.1, if_neg h.2]
theorem num_some {k : Nat} {z : Int} (h : (100 : UInt8) ∈ (shape k).parts) (h2 : ((shape k).low : Int) ≤ z ∧ z ≤ ((shape k).high : Int)) : numOk (shape k) z := by
 unfold numOk; rw [if_pos h]; exact h2
end
end Src
end Go.Proofs.YtpbhgebblpdmnaaDoor
