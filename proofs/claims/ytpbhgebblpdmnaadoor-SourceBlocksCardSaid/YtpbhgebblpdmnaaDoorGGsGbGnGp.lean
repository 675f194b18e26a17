/-
  Contracts and words of several parts of the program (Gs, Gb, Gn, Gp), one after the other.
  Conditions: those that each says.
-/
import Derived.Test.YtpbhgebblpdmnaaDoorGc
import Derived.Test.YtpbhgebblpdmnaaDoorZ
import Derived.Test.YtpbhgebblpdmnaaDoorGApGt
namespace Go.Proofs.YtpbhgebblpdmnaaDoor
open Src
set_option linter.unusedVariables false
namespace Src
section
variable {N i d j j1 j2 j3 : Nat} {t : Str} {a b c : Nd}
theorem xg_rt {i : Nat} {m f : Nat} (h : XG N i m a j) (hf : m + 1 ≤ f) : rt f a := rt_le hf h.r
theorem xc_le (e : Nat) (n : Nd) : tc (tk e n) ≤ xc e n := by unfold xc; omega
theorem sg_mk {n : Nd} (hk : 9 ≤ n.kind ∧ n.kind ≤ 25) (hr : rt (2 * d + 3 + 1) n) (hc : ∀ f, 2 * d + 3 ≤ f → Cst N i j (Co d) (tc (tk (f + 1) n))) (h1 : i < j) (h2 : j ≤ i + Ko d) : SG N i d n j :=
 ⟨hk, hr, fun e he => by obtain ⟨f, rfl, hf⟩ := e_succ (d := 2 * d + 3) he; exact hc f hf, h1, h2⟩
theorem ko_E {P : Nd → Prop} {x : Nd} {cs : Str} {l : List Nd} (h : isExpr x.kind) (hp : P x) (hk : kidsOk P cs l) : kidsOk P (69 :: cs) (x :: l) := by
 rw [kidsOk, if_pos rfl]; exact ⟨x, l, rfl, h, hp, hk⟩
theorem ko_B {P : Nd → Prop} {x : Nd} {cs : Str} {l : List Nd} (h : x.kind = 8) (hp : P x) (hk : kidsOk P cs l) : kidsOk P (66 :: cs) (x :: l) := by
 rw [kidsOk, if_neg (by decide), if_pos rfl]; exact ⟨x, l, rfl, h, hp, hk⟩
theorem ko_L {P : Nd → Prop} {x : Nd} {cs : Str} {l : List Nd} (h : x.kind = 33) (hp : P x) (hk : kidsOk P cs l) : kidsOk P (76 :: cs) (x :: l) := by
 rw [kidsOk, if_neg (by decide), if_neg (by decide), if_pos rfl]; exact ⟨x, l, rfl, h, hp, hk⟩
theorem ko_P {P : Nd → Prop} {x : Nd} {cs : Str} {l : List Nd} (h : x.kind = 34 ∨ x.kind = 35) (hp : P x) (hk : kidsOk P cs l) : kidsOk P (80 :: cs) (x :: l) := by
 rw [kidsOk, if_neg (by decide), if_neg (by decide), if_neg (by decide), if_pos rfl]; exact ⟨x, l, rfl, h, hp, hk⟩
theorem ko_O0 {P : Nd → Prop} {cs : Str} (hk : kidsOk P cs []) : kidsOk P (79 :: cs) [] := by
 rw [kidsOk, if_neg (by decide), if_neg (by decide), if_neg (by decide), if_neg (by decide), if_pos rfl]; exact Or.inl ⟨rfl, hk⟩
theorem ko_O {P : Nd → Prop} {x : Nd} {cs : Str} {l : List Nd} (h : x.kind = 8) (hp : P x) (hk : kidsOk P cs l) : kidsOk P (79 :: cs) (x :: l) := by
 rw [kidsOk, if_neg (by decide), if_neg (by decide), if_neg (by decide), if_neg (by decide), if_pos rfl]; exact Or.inr ⟨x, l, rfl, h, hp, hk⟩
theorem ko_skip {P : Nd → Prop} {c : UInt8} {cs : Str} {l : List Nd} (h : c ∈ ([110, 108, 100, 122, 59, 61, 123, 125] : List UInt8)) (hk : kidsOk P cs l) : kidsOk P (c :: cs) l := by
 have h2 : c ≠ 69 ∧ c ≠ 66 ∧ c ≠ 76 ∧ c ≠ 80 ∧ c ≠ 79 ∧ c ≠ 73 ∧ c ≠ 83 := by
  have : ∀ c ∈ ([110, 108, 100, 122, 59, 61, 123, 125] : List UInt8), c ≠ 69 ∧ c ≠ 66 ∧ c ≠ 76 ∧ c ≠ 80 ∧ c ≠ 79 ∧ c ≠ 73 ∧ c ≠ 83 := by decide
  exact this c h
 rw [kidsOk, if_neg h2.1, if_neg h2.2.1, if_neg h2.2.2.1, if_neg h2.2.2.2.1, if_neg h2.2.2.2.2.1, if_neg h2.2.2.2.2.2.1, if_neg h2.2.2.2.2.2.2]; exact hk
theorem ko_nil {P : Nd → Prop} : kidsOk P [] [] := by rw [kidsOk]
theorem kids_E (h : isExpr a.kind) (hr : rt d a) : kidsOk (rt d) [69, 59] [a] := ko_E h hr (ko_skip (by decide) ko_nil)
theorem own_len (ht : t ∈ ownL) (h : N ≤ i → t = [97]) : t.length ≤ 16 ∧ (N ≤ i → t.length = 1) := ⟨(own_ok t ht).2, fun e => by rw [h e]; rfl⟩
theorem called_len (ht : t ∈ calledL) (h : N ≤ i → t = [97]) : t.length ≤ 16 ∧ (N ≤ i → t.length = 1) := ⟨(called_ok t ht).2, fun e => by rw [h e]; rfl⟩
theorem sg_let (hi : i < N) (ht : t ∈ ownL) (hta : N ≤ i + 1 → t = [97]) (ha : XG N (i + 2) 2 a j) : SG N i d (.mk 9 t 0 [a]) j := by
 have hl := own_len ht hta
 have h8 := Co_8 d
 refine sg_mk (by dsimp only [Nd.kind]; omega) ?_ (fun f hf => ?_) (by have := ha.lo; omega) (by have := Ko_23 d; have h := ha.hi; simp only [Kv] at h; omega)
 ·
  refine rt_mk (k := 9) (by omega) (by omega) (text_word (by omega) (by decide) (by decide) (own_ok t ht).1) (num_none (by decide)) ?_
  rw [show (shape 9).parts = [108, 61, 69, 59] by decide]
  exact ko_skip (by decide) (ko_skip (by decide) (kids_E ha.e (xg_rt ha (by omega))))
 ·
  rw [tk9, tc_cons, tc_cons, tc_app, tc_one]
  have h1 := ha.c f (by omega)
  have h2 := xc_le f a
  have := ha.lo
  simp only [List.length_cons, List.length_nil]
  unfold Cst at h1 ⊢
  obtain ⟨p1, p2⟩ := h1
  obtain ⟨l1, l2⟩ := hl
  rcases Nat.lt_or_ge (i + 1) N with h | h
  ·
   constructor <;> intro hj
   ·
    have := p1 hj; omega
   ·
    have := p2 hj; omega
  ·
   have := l2 h
   constructor <;> intro hj
   ·
    omega
   ·
    have := p2 hj; omega
theorem sg_set (hi : i < N) (hp : AtF N (i + 1) a j1) (hb : XG N j1 2 b j) : SG N i d (.mk 10 [] 0 [a, b]) j := by
 have ha := atf_pg hp
 have h8 := Co_8 d
 have l1 := ha.lo; have l2 := ha.hi
 refine sg_mk (by dsimp only [Nd.kind]; omega) ?_ (fun f hf => ?_) (by have := hb.lo; omega) (by have := Ko_23 d; have h := hb.hi; simp only [Kv] at h; omega)
 ·
  refine rt_mk (k := 10) (by omega) (by omega) (text_none (by omega) (by omega) (by decide)) (num_none (by decide)) ?_
  rw [show (shape 10).parts = [80, 61, 69, 59] by decide]
  exact ko_P ha.k (ha.r _) (ko_skip (by decide) (kids_E hb.e (xg_rt hb (by omega))))
 ·
  obtain ⟨g, rfl, hg⟩ := e_succ (d := 2 * d + 2) hf
  rw [tk10, tc_app, tc_cons, tc_app, tc_one]
  obtain ⟨⟨c1, c2⟩, c3, c4, c5, c6, c7⟩ := ha.c g
  have h1 := hb.c (g + 1) (by omega)
  have h2 := xc_le (g + 1) b
  have := hb.lo
  simp only [List.length_cons, List.length_nil]
  obtain ⟨p1, p2⟩ := h1
  rcases Nat.lt_or_ge (i + 1) N with h | h
  ·
   obtain ⟨q1, q2⟩ := c3 h
   constructor <;> intro hj
   ·
    have := p1 hj; have := q1 (by omega); omega
   ·
    have := p2 hj
    rcases Nat.lt_or_ge N j1 with h' | h'
    ·
     have := q2 h'; omega
    ·
     have := q1 h'; omega
  ·
   have := c6 h
   constructor <;> intro hj
   ·
    omega
   ·
    have := p2 hj; omega
theorem sg_name {k : Nat} (hk : k = 13 ∨ k = 14 ∨ k = 17 ∨ k = 18) (hi : i < N) (ht : t ∈ calledL) (hta : N ≤ i + 1 → t = [97]) : SG N i d (.mk (k : Int) t 0 []) (i + 2) := by
 obtain ⟨l1, l2⟩ := called_len ht hta
 have h8 := Co_8 d
 refine sg_mk (by dsimp only [Nd.kind]; omega) ?_ (fun f hf => ?_) (by omega) (by have := Ko_23 d; omega)
 ·
  have hp : (shape k).parts = [110, 59] := by rcases hk with rfl | rfl | rfl | rfl <;> decide
  refine rt_mk (k := k) (by omega) (by omega) (text_name (by omega) (by rw [hp]; decide) (called_ok t ht).1) (num_none (by rw [hp]; decide)) ?_
  rw [hp]; exact ko_skip (by decide) (ko_skip (by decide) ko_nil)
 ·
  obtain ⟨w, hw, e1⟩ := tkN (e := f) hk (t := t) (z := 0)
  rw [e1, tc_cons, tc_cons, tc_one]
  simp only [List.length_cons, List.length_nil]
  constructor <;> intro hj
  ·
   omega
  ·
   have := l2 (by omega); omega
theorem sg_send {k : Nat} (hk : k = 15 ∨ k = 22) (hi : i < N) (ht : t ∈ calledL) (hta : N ≤ i + 1 → t = [97]) (ha : XG N (i + 2) 1 a j) : SG N i d (.mk (k : Int) t 0 [a]) j := by
 obtain ⟨l1, l2⟩ := called_len ht hta
 have h8 := Co_8 d
 refine sg_mk (by dsimp only [Nd.kind]; omega) ?_ (fun f hf => ?_) (by have := ha.lo; omega) (by have := Ko_23 d; have h := ha.hi; simp only [Kv] at h; omega)
 ·
  have hp : (shape k).parts = [110, 69, 59] := by rcases hk with rfl | rfl <;> decide
  refine rt_mk (k := k) (by omega) (by omega) (text_name (by omega) (by rw [hp]; decide) (called_ok t ht).1) (num_none (by rw [hp]; decide)) ?_
  rw [hp]
  exact ko_skip (by decide) (kids_E ha.e (xg_rt ha (by omega)))
 ·
  obtain ⟨w, hw, e1⟩ := tkNE (e := f) hk (t := t) (z := 0) (a := a)
  rw [e1, tc_cons, tc_cons, tc_app, tc_one]
  have h2 := xc_le f a
  have := ha.lo
  simp only [List.length_cons, List.length_nil]
  obtain ⟨p1, p2⟩ := ha.c f (by omega)
  rcases Nat.lt_or_ge (i + 1) N with h | h
  ·
   constructor <;> intro hj
   ·
    have := p1 hj; omega
   ·
    have := p2 hj; omega
  ·
   have := l2 h
   constructor <;> intro hj
   ·
    omega
   ·
    have := p2 hj; omega
theorem sg_recv {k : Nat} {u : Str} (hk : k = 16 ∨ k = 23) (hi : i < N) (ht : t ∈ calledL) (hta : N ≤ i + 1 → t = [97]) (hu : u ∈ ownL) (hua : N ≤ i + 2 → u = [97]) : SG N i d (.mk (k : Int) t 0 [.mk 33 u 0 []]) (i + 3) := by
 obtain ⟨l1, l2⟩ := called_len ht hta
 obtain ⟨m1, m2⟩ := own_len hu hua
 have h8 := Co_8 d
 refine sg_mk (by dsimp only [Nd.kind]; omega) ?_ (fun f hf => ?_) (by omega) (by have := Ko_23 d; omega)
 ·
  have hp : (shape k).parts = [110, 76, 59] := by rcases hk with rfl | rfl <;> decide
  refine rt_mk (k := k) (by omega) (by omega) (text_name (by omega) (by rw [hp]; decide) (called_ok t ht).1) (num_none (by rw [hp]; decide)) ?_
  rw [hp]
  exact ko_skip (by decide) (ko_L rfl (rt33 (own_ok u hu).1 (2 * d + 2)) (ko_skip (by decide) ko_nil))
 ·
  obtain ⟨g, rfl, hg⟩ := e_succ (d := 2 * d + 2) hf
  obtain ⟨w, hw, e1⟩ := tkNL (e := g + 1) hk (t := t) (z := 0) (a := .mk 33 u 0 [])
  rw [e1, tc_cons, tc_cons, tc_app, tc_one, tk33, tc_one]
  simp only [List.length_cons, List.length_nil]
  constructor <;> intro hj
  ·
   omega
  ·
   have := m2 (by omega)
   rcases Nat.lt_or_ge (i + 1) N with h | h
   ·
    omega
   ·
    have := l2 h; omega
theorem dec_one {z : Int} (h0 : 0 ≤ z) (h1 : z ≤ 9) : (decZ z).length = 1 := by
 unfold decZ; rw [if_neg (by omega)]; unfold decD; rw [if_pos (by omega)]; rfl
theorem sg_draw {r : Nat} (hr : r < 5) (hi : i < N) (ht : t ∈ ownL) (hta : N ≤ i + 1 → t = [97]) : SG N i d (.mk 19 t (2 + (r : Int)) []) (i + 3) := by
 obtain ⟨l1, l2⟩ := own_len ht hta
 have h8 := Co_8 d
 have h9 := dec_one (z := 2 + (r : Int)) (by omega) (by omega)
 refine sg_mk (by dsimp only [Nd.kind]; omega) ?_ (fun f hf => ?_) (by omega) (by have := Ko_23 d; omega)
 ·
  refine rt_mk (k := 19) (by omega) (by omega) (text_word (by omega) (by decide) (by decide) (own_ok t ht).1) (num_some (by decide) ?_) ?_
  ·
   rw [show (shape 19).low = 2 by decide, show (shape 19).high = 6 by decide]; omega
  ·
   rw [show (shape 19).parts = [108, 100, 59] by decide]; exact ko_skip (by decide) (ko_skip (by decide) (ko_skip (by decide) ko_nil))
 ·
  rw [tk19, tc_cons, tc_cons, tc_cons, tc_one, h9]
  simp only [List.length_cons, List.length_nil]
  constructor <;> intro hj
  ·
   omega
  ·
   rcases Nat.lt_or_ge (i + 1) N with h | h
   ·
    omega
   ·
    have := l2 h; omega
theorem sg_now (hi : i < N) (ht : t ∈ ownL) (hta : N ≤ i + 1 → t = [97]) : SG N i d (.mk 20 t 0 []) (i + 2) := by
 obtain ⟨l1, l2⟩ := own_len ht hta
 have h8 := Co_8 d
 refine sg_mk (by dsimp only [Nd.kind]; omega) ?_ (fun f hf => ?_) (by omega) (by have := Ko_23 d; omega)
 ·
  refine rt_mk (k := 20) (by omega) (by omega) (text_word (by omega) (by decide) (by decide) (own_ok t ht).1) (num_none (by decide)) ?_
  rw [show (shape 20).parts = [108, 59] by decide]; exact ko_skip (by decide) (ko_skip (by decide) ko_nil)
 ·
  rw [tk20, tc_cons, tc_cons, tc_one]
  simp only [List.length_cons, List.length_nil]
  constructor <;> intro hj
  ·
   omega
  ·
   have := l2 (by omega); omega
theorem sg_num {k : Nat} {z : Int} (hk : k = 21 ∧ z ≤ 9 ∨ k = 25 ∧ z ≤ 99) (hz : 1 ≤ z) (hi : i < N) : SG N i d (.mk (k : Int) [] z []) (i + 2) := by
 have hk' : k = 21 ∨ k = 25 := by omega
 have h8 := Co_8 d
 have h9 := decZ_len3 (z := z) (by omega) (by omega)
 refine sg_mk (by dsimp only [Nd.kind]; omega) ?_ (fun f hf => ?_) (by omega) (by have := Ko_23 d; omega)
 ·
  have hp : (shape k).parts = [100, 59] := by rcases hk' with rfl | rfl <;> decide
  refine rt_mk (k := k) (by omega) (by omega) (text_none (by omega) (by omega) (by rw [hp]; decide)) (num_some (by rw [hp]; decide) ?_) ?_
  ·
   rcases hk with ⟨rfl, h⟩ | ⟨rfl, h⟩
   ·
    rw [show (shape 21).low = 1 by decide, show (shape 21).high = 9 by decide]; omega
   ·
    rw [show (shape 25).low = 1 by decide, show (shape 25).high = 99 by decide]; omega
  ·
   rw [hp]; exact ko_skip (by decide) (ko_skip (by decide) ko_nil)
 ·
  obtain ⟨w, hw, e1⟩ := tkD (e := f) hk' (t := []) (z := z)
  rw [e1, tc_cons, tc_cons, tc_one]
  simp only [List.length_cons, List.length_nil]
  constructor <;> intro hj <;> omega
theorem sg_check (hi : i < N) (ha : XG N (i + 1) 2 a j) : SG N i d (.mk 24 [] 0 [a]) j := by
 have h8 := Co_8 d
 refine sg_mk (by dsimp only [Nd.kind]; omega) ?_ (fun f hf => ?_) (by have := ha.lo; omega) (by have := Ko_23 d; have h := ha.hi; simp only [Kv] at h; omega)
 ·
  refine rt_mk (k := 24) (by omega) (by omega) (text_none (by omega) (by omega) (by decide)) (num_none (by decide)) ?_
  rw [show (shape 24).parts = [69, 59] by decide]
  exact kids_E ha.e (xg_rt (f := 2 * d + 3) ha (by omega))
 ·
  rw [tk24, tc_cons, tc_app, tc_one]
  have h2 := xc_le f a
  have := ha.lo
  simp only [List.length_cons, List.length_nil]
  obtain ⟨p1, p2⟩ := ha.c f (by omega)
  constructor <;> intro hj
  ·
   have := p1 hj; omega
  ·
   have := p2 hj; omega
theorem sg_while (hi : i < N) (ha : XG N (i + 1) 1 a j1) (hb : BG N j1 d b j) : SG N i (d + 1) (.mk 12 [] 0 [a, b]) j := by
 have h8 := Co_8 d
 refine sg_mk (by dsimp only [Nd.kind]; omega) ?_ (fun f hf => ?_) (by have := ha.lo; have := hb.lo; omega) (by have h := ha.hi; have := hb.hi; simp only [Kv] at h; simp only [Ko]; omega)
 ·
  refine rt_mk (k := 12) (by omega) (by omega) (text_none (by omega) (by omega) (by decide)) (num_none (by decide)) ?_
  rw [show (shape 12).parts = [69, 66] by decide]
  have h1 := xg_rt (f := 2 * (d + 1) + 3) ha (by omega)
  have h2 := rt_le (e := 2 * (d + 1) + 3) (by omega) hb.r
  exact ko_E ha.e h1 (ko_B hb.k h2 ko_nil)
 ·
  rw [tk12, tc_cons, tc_app]
  have h2 := xc_le f a
  have l1 := ha.lo; have l2 := hb.lo
  simp only [List.length_cons, List.length_nil]
  obtain ⟨p1, p2⟩ := ha.c f (by omega)
  obtain ⟨q1, q2⟩ := hb.c f (by omega)
  rw [Co]
  constructor <;> intro hj
  ·
   have := p1 (by omega); have := q1 hj; omega
  ·
   have := q2 hj
   rcases Nat.lt_or_ge N j1 with h' | h'
   ·
    have := p2 h'; omega
   ·
    have := p1 h'; omega
theorem sg_if (hi : i < N) (ha : XG N (i + 1) 1 a j1) (hb : BG N j1 d b j) : SG N i (d + 1) (.mk 11 [] 0 [a, b]) (j + 1) := by
 have h8 := Co_8 d
 refine sg_mk (by dsimp only [Nd.kind]; omega) ?_ (fun f hf => ?_) (by have := ha.lo; have := hb.lo; omega) (by have h := ha.hi; have := hb.hi; simp only [Kv] at h; simp only [Ko]; omega)
 ·
  refine rt_mk (k := 11) (by omega) (by omega) (text_none (by omega) (by omega) (by decide)) (num_none (by decide)) ?_
  rw [show (shape 11).parts = [69, 66, 79] by decide]
  have h1 := xg_rt (f := 2 * (d + 1) + 3) ha (by omega)
  have h2 := rt_le (e := 2 * (d + 1) + 3) (by omega) hb.r
  exact ko_E ha.e h1 (ko_B hb.k h2 (ko_O0 ko_nil))
 ·
  rw [tk11, tc_cons, tc_app]
  have h2 := xc_le f a
  have l1 := ha.lo; have l2 := hb.lo
  simp only [List.length_cons, List.length_nil]
  obtain ⟨p1, p2⟩ := ha.c f (by omega)
  obtain ⟨q1, q2⟩ := hb.c f (by omega)
  rw [Co]
  constructor <;> intro hj
  ·
   have := p1 (by omega); have := q1 (by omega); omega
  ·
   rcases Nat.lt_or_ge N j with h'' | h''
   ·
    have := q2 h''
    rcases Nat.lt_or_ge N j1 with h' | h'
    ·
     have := p2 h'; omega
    ·
     have := p1 h'; omega
   ·
    have := q1 h''
    have := p1 (by omega); omega
theorem sg_ifelse (hi : i < N) (ha : XG N (i + 1) 1 a j1) (hb : BG N j1 d b j2) (hc : BG N (j2 + 1) d c j) : SG N i (d + 1) (.mk 11 [] 0 [a, b, c]) j := by
 have h8 := Co_8 d
 refine sg_mk (by dsimp only [Nd.kind]; omega) ?_ (fun f hf => ?_) (by have := ha.lo; have := hb.lo; have := hc.lo; omega) (by have h := ha.hi; have := hb.hi; have := hc.hi; simp only [Kv] at h; simp only [Ko]; omega)
 ·
  refine rt_mk (k := 11) (by omega) (by omega) (text_none (by omega) (by omega) (by decide)) (num_none (by decide)) ?_
  rw [show (shape 11).parts = [69, 66, 79] by decide]
  have h1 := xg_rt (f := 2 * (d + 1) + 3) ha (by omega)
  have h2 := rt_le (e := 2 * (d + 1) + 3) (by omega) hb.r
  have h3 := rt_le (e := 2 * (d + 1) + 3) (by omega) hc.r
  exact ko_E ha.e h1 (ko_B hb.k h2 (ko_O hc.k h3 ko_nil))
 ·
  rw [tk11e, tc_cons, tc_app, tc_app, tc_cons]
  have h2 := xc_le f a
  have l1 := ha.lo; have l2 := hb.lo; have l3 := hc.lo
  have h5 : wElse.length = 4 := rfl
  simp only [List.length_cons, List.length_nil]
  obtain ⟨p1, p2⟩ := ha.c f (by omega)
  obtain ⟨q1, q2⟩ := hb.c f (by omega)
  obtain ⟨r1, r2⟩ := hc.c f (by omega)
  rw [Co, h5]
  constructor <;> intro hj
  ·
   have := p1 (by omega); have := q1 (by omega); have := r1 hj; omega
  ·
   have := r2 hj
   rcases Nat.lt_or_ge N j2 with h'' | h''
   ·
    have := q2 h''
    rcases Nat.lt_or_ge N j1 with h' | h'
    ·
     have := p2 h'; omega
    ·
     have := p1 h'; omega
   ·
    have := q1 h''
    have := p1 (by omega); omega
end
end Src
end Go.Proofs.YtpbhgebblpdmnaaDoor
namespace Go.Proofs.YtpbhgebblpdmnaaDoor
open Src
set_option linter.unusedVariables false
namespace Src
structure TP (N : Nat) (l : List Nd) (j : Nat) : Prop where
 k : ∀ x ∈ l, 9 ≤ x.kind ∧ x.kind ≤ 25 ∧ rt 8 x
 c : ∀ e, 8 ≤ e → Cst N 0 j 44 (tc (l.flatMap (tk e)))
 hi : j ≤ N + 921
 n : l.length ≤ j
theorem tp_start (N : Nat) : TP N [] 2 := by
 refine ⟨fun x hx => by simp at hx, fun e he => ?_, by omega, by simp⟩
 simp only [List.flatMap_nil, tc_nil]
 constructor <;> intro hj <;> omega
theorem tp_step {N j j2 : Nat} {l : List Nd} {n : Nd} (h : TP N l j) (hj : j < N) (hs : SG N j 2 n j2) : TP N (l ++ [n]) j2 := by
 refine ⟨fun x hx => ?_, fun e he => ?_, ?_, ?_⟩
 ·
  rcases List.mem_append.1 hx with hx | hx
  ·
   exact h.k x hx
  ·
   rw [List.mem_singleton] at hx; subst hx; exact ⟨hs.k.1, hs.k.2, hs.r⟩
 ·
  rw [tc_flat]
  obtain ⟨a1, _⟩ := h.c e he
  obtain ⟨b1, b2⟩ := hs.c e he
  have := a1 (by omega)
  simp only [Co] at b2
  simp only [List.flatMap_cons, List.flatMap_nil, List.append_nil]
  constructor <;> intro hq
  ·
   have := b1 hq; omega
  ·
   have := b2 hq; omega
 ·
  have := hs.hi; simp only [Ko] at this; omega
 ·
  have := h.n; have := hs.lo; rw [List.length_append]; simp only [List.length_cons, List.length_nil]; omega
theorem tp_end {N j e : Nat} {l : List Nd} (h : TP N l j) (hN : N ≤ 48) (he : 8 ≤ e) : tc (l.flatMap (tk e)) ≤ 716 := by
 obtain ⟨a, b⟩ := h.c e he
 rcases Nat.lt_or_ge N j with h | h
 ·
  have := b h; omega
 ·
  have := a h; omega
def pr (k : Nat) (t : Str) (l : List Nd) : Nd := .mk (k : Int) t 0 [.mk 8 [] 0 l]
theorem rt_pr {k : Nat} (hk : k = 5 ∨ k = 6) {t : Str} (ht : nameOk t) {d : Nat} {l : List Nd} (hl : ∀ x ∈ l, 9 ≤ x.kind ∧ x.kind ≤ 25 ∧ rt d x) : rt (d + 2) (pr k t l) := by
 have hp : (shape k).parts = [110, 66] := by rcases hk with rfl | rfl <;> decide
 refine rt_mk (k := k) (by omega) (by omega) (text_name (by omega) (by rw [hp]; decide) ht) (num_none (by rw [hp]; decide)) ?_
 rw [hp]
 exact ko_skip (by decide) (ko_B rfl (rt8 hl) ko_nil)
theorem tk_pr {k : Nat} (hk : k = 5 ∨ k = 6) {t : Str} {d : Nat} {l : List Nd} : tk (d + 2) (pr k t l) = [(shape k).word, t, [123]] ++ (l.flatMap (tk d) ++ [[125]]) := by
 have hp : (shape k).parts = [110, 66] := by rcases hk with rfl | rfl <;> decide
 have hw : wordT k = [(shape k).word] := by rcases hk with rfl | rfl <;> decide
 refine (tk_mk (k := k) (by omega)).trans ?_
 rw [hw, hp]
 simp [partsT, partT, Nd.text, tk8]
theorem vd_pr {k : Nat} (hk : k = 5 ∨ k = 6) {t : Str} (ht : nameOk t) {l : List Nd} (hl : ∀ x ∈ l, 9 ≤ x.kind ∧ x.kind ≤ 25 ∧ rt 22 x) : vDef (pr k t l) ↔ (txt 24 (pr k t l)).length ≤ 1024 :=
 ⟨fun h => h.2.2.2, fun h => ⟨by dsimp only [pr, Nd.kind]; omega, by dsimp only [pr, Nd.kind]; omega, rt_pr hk ht hl, h⟩⟩
theorem tp_valid {N j k : Nat} {t : Str} {l : List Nd} (h : TP N l j) (hN : N ≤ 48) (hk : k = 5 ∨ k = 6) (ht : nameOk t) (hl : t.length ≤ 16) : vDef (pr k t l) := by
 refine (vd_pr hk ht (fun x hx => ?_)).2 ?_
 ·
  obtain ⟨a, b, c⟩ := h.k x hx
  exact ⟨a, b, rt_le (by omega) c⟩
 ·
  have h1 := txt_tc 24 (pr k t l)
  rw [tk_pr (d := 22) hk, tc_app, tc_app, tc_cons, tc_cons, tc_one, tc_one] at h1
  have h2 := tp_end (e := 22) h hN (by omega)
  have h3 : (shape k).word.length = 4 := by rcases hk with rfl | rfl <;> decide
  simp only [List.length_cons, List.length_nil] at h1
  omega
/-! The text of two blocks. -/
theorem spt_app : ∀ (l m : List Str) (x : Str), spt x (l ++ m) = spt (spt x l) m
 | [], m, x => rfl
 | t :: l, m, x => by rw [List.cons_append, spt, spt, spt_app l m]
def gapT (t : Str) : Str := if t ≠ [41] ∧ t ≠ [59] then [32] else []
theorem sep_gap {x t : Str} (h : x ≠ []) (h2 : x.getLast? ≠ some 40) : sep x t = x ++ gapT t := by
 unfold sep gapT
 by_cases h3 : t ≠ [41] ∧ t ≠ [59]
 ·
  rw [if_pos ⟨h, h2, h3.1, h3.2⟩, if_pos h3]
 ·
  rw [if_neg (fun e => h3 ⟨e.2.2.1, e.2.2.2⟩), if_neg h3, List.append_nil]
theorem sep_none {x t : Str} (h2 : x.getLast? = some 40) : sep x t = x := by
 unfold sep
 rw [if_neg (fun e => e.2.1 h2)]
theorem spt_ext : ∀ (l : List Str) (x y : Str), x ≠ [] → y ≠ [] → (x.getLast? = some 40 ↔ y.getLast? = some 40) → ∃ s, spt x l = x ++ s ∧ spt y l = y ++ s
 | [], x, y, _, _, _ => ⟨[], by rw [spt, List.append_nil], by rw [spt, List.append_nil]⟩
 | t :: l, x, y, hx, hy, h => by
  obtain ⟨u, h1, h2⟩ : ∃ u, sep x t = x ++ u ∧ sep y t = y ++ u := by
   by_cases h40 : x.getLast? = some 40
   ·
    exact ⟨[], by rw [sep_none h40, List.append_nil], by rw [sep_none (h.1 h40), List.append_nil]⟩
   ·
    exact ⟨gapT t, sep_gap hx h40, sep_gap hy (fun e => h40 (h.2 e))⟩
  obtain ⟨s, h3, h4⟩ := spt_ext l (x ++ u ++ t) (y ++ u ++ t) (by simp [hx]) (by simp [hy]) (by simp [h])
  refine ⟨u ++ t ++ s, ?_, ?_⟩
  ·
   rw [spt, h1, h3]; simp
  ·
   rw [spt, h2, h4]; simp
theorem partsT_snoc {f : Nd → List Str} {n : Nd} {c : UInt8} (hc : c = 59 ∨ c = 125) : ∀ (q : Str) (l : List Nd), ∃ r, partsT f n (q ++ [c]) l = r ++ [[c]]
 | [], l => ⟨[], by rcases hc with rfl | rfl <;> simp [partsT, partT]⟩
 | b :: q, l => by
  obtain ⟨r, hr⟩ := partsT_snoc (f := f) (n := n) hc q (partT f n b l).1
  exact ⟨(partT f n b l).2 ++ r, by rw [List.cons_append, partsT, hr, List.append_assoc]⟩
theorem shape_end : ∀ k, k < 26 → 9 ≤ k → k ≠ 11 → k ≠ 12 → (shape k).parts = (shape k).parts.dropLast ++ [59] := by decide
theorem block_last {d : Nat} {x : Nd} (h : rt d x) (hk : x.kind = 8) : ∃ r, tk d x = r ++ [[125]] := by
 obtain ⟨e, rfl⟩ := rt_pos h
 obtain ⟨k, t, z, l⟩ := x
 dsimp only [Nd.kind] at hk
 subst hk
 exact ⟨[123] :: l.flatMap (tk e), by rw [tk8]; rfl⟩
theorem ko_two {P : Nd → Prop} {cs : Str} {l : List Nd} (h : kidsOk P (69 :: 66 :: cs) l) : ∃ a b m, l = a :: b :: m ∧ b.kind = 8 ∧ P b ∧ kidsOk P cs m := by
 rw [kidsOk, if_pos rfl] at h
 obtain ⟨a, l', rfl, _, _, h⟩ := h
 rw [kidsOk, if_neg (by decide), if_pos rfl] at h
 obtain ⟨b, m, rfl, h1, h2, h3⟩ := h
 exact ⟨a, b, m, rfl, h1, h2, h3⟩
theorem ko_three {P : Nd → Prop} {l : List Nd} (h : kidsOk P [79] l) : l = [] ∨ ∃ c, l = [c] ∧ c.kind = 8 ∧ P c := by
 rw [kidsOk, if_neg (by decide), if_neg (by decide), if_neg (by decide), if_neg (by decide), if_pos rfl] at h
 rcases h with ⟨h, _⟩ | ⟨c, m, rfl, h1, h2, h3⟩
 ·
  exact Or.inl h
 ·
  rw [kidsOk] at h3; subst h3; exact Or.inr ⟨c, rfl, h1, h2⟩
theorem stmt_last {d : Nat} {x : Nd} (h : rt d x) (hk : 9 ≤ x.kind ∧ x.kind ≤ 25) : ∃ r t, tk d x = r ++ [t] ∧ (t = [59] ∨ t = [125]) := by
 obtain ⟨e, rfl⟩ := rt_pos h
 obtain ⟨kz, t, z, l⟩ := x
 dsimp only [Nd.kind] at hk
 obtain ⟨k, rfl⟩ : ∃ k : Nat, kz = (k : Int) := ⟨kz.toNat, by omega⟩
 obtain ⟨_, _, _, _, hks⟩ := rt_leaf h (by dsimp only [Nd.kind]; omega)
 dsimp only [Nd.kind, Nd.kids, Int.toNat_natCast] at hks
 by_cases h11 : k = 11
 ·
  subst h11
  rw [show (shape 11).parts = [69, 66, 79] by decide] at hks
  obtain ⟨a, b, m, rfl, hb, hbr, hm⟩ := ko_two hks
  rcases ko_three hm with rfl | ⟨c, rfl, hc, hcr⟩
  ·
   obtain ⟨r, hr⟩ := block_last hbr hb
   refine ⟨[105, 102] :: (tk e a ++ r), [125], ?_, Or.inr rfl⟩
   have : tk (e + 1) (.mk ((11 : Nat) : Int) t z [a, b]) = [105, 102] :: (tk e a ++ tk e b) := tk11
   rw [this, hr]; simp
  ·
   obtain ⟨r, hr⟩ := block_last hcr hc
   refine ⟨[105, 102] :: (tk e a ++ tk e b ++ wElse :: r), [125], ?_, Or.inr rfl⟩
   have : tk (e + 1) (.mk ((11 : Nat) : Int) t z [a, b, c]) = [105, 102] :: (tk e a ++ tk e b ++ wElse :: tk e c) := tk11e
   rw [this, hr]; simp
 ·
  by_cases h12 : k = 12
  ·
   subst h12
   rw [show (shape 12).parts = [69, 66] by decide] at hks
   obtain ⟨a, b, m, rfl, hb, hbr, hm⟩ := ko_two hks
   rw [kidsOk] at hm
   subst hm
   obtain ⟨r, hr⟩ := block_last hbr hb
   refine ⟨[119, 104, 105, 108, 101] :: (tk e a ++ r), [125], ?_, Or.inr rfl⟩
   have : tk (e + 1) (.mk ((12 : Nat) : Int) t z [a, b]) = [119, 104, 105, 108, 101] :: (tk e a ++ tk e b) := tk12
   rw [this, hr]; simp
  ·
   rw [tk_mk (by omega), shape_end k (by omega) (by omega) h11 h12]
   obtain ⟨r, hr⟩ := partsT_snoc (f := tk e) (n := .mk (k : Int) t z l) (c := 59) (Or.inl rfl) (shape k).parts.dropLast l
   exact ⟨wordT k ++ r, [59], by rw [hr, List.append_assoc], Or.inl rfl⟩
theorem stmt_head {d : Nat} {x : Nd} (h : rt d x) (hk : 9 ≤ x.kind ∧ x.kind ≤ 25) : ∃ t l, tk d x = t :: l ∧ t ≠ [41] ∧ t ≠ [59] := by
 obtain ⟨t, l, h1, _, h3⟩ := stmt_first h hk
 cases hq : tk d x with
 | nil => rw [hq] at h1; simp [raw] at h1
 | cons u m =>
  refine ⟨u, m, rfl, ?_, ?_⟩
  ·
   rintro rfl
   rw [hq, raw_cons, show rawOf [41] = [[41]] by decide] at h1
   injection h1 with h1 _
   have := h3 0 []
   rw [← h1, show (S [([41], 0)]).stmtHere = -1 by decide] at this
   omega
  ·
   rintro rfl
   rw [hq, raw_cons, show rawOf [59] = [[59]] by decide] at h1
   injection h1 with h1 _
   have := h3 0 []
   rw [← h1, show (S [([59], 0)]).stmtHere = -1 by decide] at this
   omega
theorem last_ok {F : List Str} {x : Str} (hx : x ≠ []) (hx2 : x.getLast? ≠ some 40) (hF : F = [] ∨ ∃ r t, F = r ++ [t] ∧ (t = [59] ∨ t = [125])) : spt x F ≠ [] ∧ (spt x F).getLast? ≠ some 40 := by
 rcases hF with rfl | ⟨r, t, rfl, ht⟩
 ·
  exact ⟨hx, hx2⟩
 ·
  rw [spt_app, spt, spt]
  rcases ht with rfl | rfl
  ·
   exact ⟨by simp, by simp⟩
  ·
   exact ⟨by simp, by simp⟩
theorem flat_last {d : Nat} {l : List Nd} (hl : ∀ x ∈ l, 9 ≤ x.kind ∧ x.kind ≤ 25 ∧ rt d x) : l.flatMap (tk d) = [] ∨ ∃ r t, l.flatMap (tk d) = r ++ [t] ∧ (t = [59] ∨ t = [125]) := by
 rcases List.eq_nil_or_concat l with rfl | ⟨m, x, rfl⟩
 ·
  exact Or.inl rfl
 ·
  obtain ⟨a, b, c⟩ := hl x (by simp)
  obtain ⟨r, t, h1, h2⟩ := stmt_last c ⟨a, b⟩
  exact Or.inr ⟨m.flatMap (tk d) ++ r, t, by rw [List.concat_eq_append, List.flatMap_append, List.flatMap_cons, List.flatMap_nil, List.append_nil, h1, List.append_assoc], h2⟩
theorem flat_head {d : Nat} {l : List Nd} (hl : ∀ x ∈ l, 9 ≤ x.kind ∧ x.kind ≤ 25 ∧ rt d x) : ∃ t m, l.flatMap (tk d) ++ [[125]] = t :: m ∧ t ≠ [41] ∧ t ≠ [59] := by
 cases l with
 | nil => exact ⟨[125], [], rfl, by decide, by decide⟩
 | cons x l =>
  obtain ⟨a, b, c⟩ := hl x (by simp)
  obtain ⟨t, m, h1, h2⟩ := stmt_head c ⟨a, b⟩
  exact ⟨t, m ++ l.flatMap (tk d) ++ [[125]], by rw [List.flatMap_cons, h1]; simp, h2⟩
theorem spt_close {x : Str} (hx : x ≠ []) (hx2 : x.getLast? ≠ some 40) : spt x [[125]] = x ++ [32, 125] := by
 rw [spt, spt, sep_gap hx hx2]; simp [gapT]
theorem txt_pr {k : Nat} (hk : k = 5 ∨ k = 6) {t : Str} {l : List Nd} : txt 24 (pr k t l) = spt ((shape k).word ++ 32 :: t ++ [32, 123]) (l.flatMap (tk 22) ++ [[125]]) ∨ t = [] ∨ t.getLast? = some 40 ∨ t = [41] ∨ t = [59] := by
 by_cases h1 : t = []
 ·
  exact Or.inr (Or.inl h1)
 ·
  by_cases h2 : t.getLast? = some 40
  ·
   exact Or.inr (Or.inr (Or.inl h2))
  ·
   by_cases h3 : t = [41] ∨ t = [59]
   ·
    exact Or.inr (Or.inr (Or.inr h3))
   ·
    left
    unfold txt
    rw [tk_pr (d := 22) hk, spt_app]
    congr 1
    have hw : (shape k).word ≠ [] ∧ (shape k).word.getLast? ≠ some 40 := by rcases hk with rfl | rfl <;> decide
    rw [spt, spt, spt, spt]
    have e1 : sep [] (shape k).word = [] := by unfold sep; rw [if_neg (by simp)]
    rw [e1, List.nil_append, sep_gap hw.1 hw.2, sep_gap (t := [123]) (by simp [h1]) (by
     rw [List.getLast?_append]
     cases hq : t.getLast? with
     | none => exact absurd (List.getLast?_eq_none_iff.1 hq) h1
     | some c => rw [hq] at h2; simpa using h2)]
    unfold gapT
    rw [if_pos ⟨fun e => h3 (Or.inl e), fun e => h3 (Or.inr e)⟩, if_pos (by decide)]
    simp
theorem blocks_text {l1 l2 : List Nd} (h1 : ∀ x ∈ l1, 9 ≤ x.kind ∧ x.kind ≤ 25 ∧ rt 22 x) (h2 : ∀ x ∈ l2, 9 ≤ x.kind ∧ x.kind ≤ 25 ∧ rt 22 x) : ∃ s1 s2 : Str,
  txt 24 (pr 5 [112] l1) = [112, 114, 111, 99, 32, 112, 32, 123] ++ s1 ++ [32, 125] ∧
  txt 24 (pr 6 [113] l2) = [116, 101, 115, 116, 32, 113, 32, 123] ++ 32 :: (s2 ++ [125]) ∧
  txt 24 (pr 5 [112] (l1 ++ l2)) = [112, 114, 111, 99, 32, 112, 32, 123] ++ s1 ++ 32 :: (s2 ++ [125]) ∧
  txt 24 (pr 6 [112] (l1 ++ l2)) = [116, 101, 115, 116, 32, 112, 32, 123] ++ s1 ++ 32 :: (s2 ++ [125]) := by
 have p1 : txt 24 (pr 5 [112] l1) = spt [112, 114, 111, 99, 32, 112, 32, 123] (l1.flatMap (tk 22) ++ [[125]]) := (txt_pr (Or.inl rfl)).resolve_right (by decide)
 have p2 : txt 24 (pr 6 [113] l2) = spt [116, 101, 115, 116, 32, 113, 32, 123] (l2.flatMap (tk 22) ++ [[125]]) := (txt_pr (Or.inr rfl)).resolve_right (by decide)
 have p3 : txt 24 (pr 5 [112] (l1 ++ l2)) = spt [112, 114, 111, 99, 32, 112, 32, 123] ((l1 ++ l2).flatMap (tk 22) ++ [[125]]) := (txt_pr (Or.inl rfl)).resolve_right (by decide)
 have p4 : txt 24 (pr 6 [112] (l1 ++ l2)) = spt [116, 101, 115, 116, 32, 112, 32, 123] ((l1 ++ l2).flatMap (tk 22) ++ [[125]]) := (txt_pr (Or.inr rfl)).resolve_right (by decide)
 obtain ⟨s1, e1, e1'⟩ := spt_ext (l1.flatMap (tk 22)) [112, 114, 111, 99, 32, 112, 32, 123] [116, 101, 115, 116, 32, 112, 32, 123] (by simp) (by simp) (by simp)
 have hX := last_ok (x := [112, 114, 111, 99, 32, 112, 32, 123]) (by simp) (by simp) (flat_last h1)
 have hY := last_ok (x := [116, 101, 115, 116, 32, 112, 32, 123]) (by simp) (by simp) (flat_last h1)
 rw [e1] at hX; rw [e1'] at hY
 have hZ := last_ok (x := [116, 101, 115, 116, 32, 113, 32, 123]) (by simp) (by simp) (flat_last h2)
 obtain ⟨u, e2, e3⟩ := spt_ext (l2.flatMap (tk 22) ++ [[125]]) [116, 101, 115, 116, 32, 113, 32, 123] ([112, 114, 111, 99, 32, 112, 32, 123] ++ s1) (by simp) hX.1 ⟨fun h => absurd h (by simp), fun h => absurd h hX.2⟩
 obtain ⟨u', e4, e5⟩ := spt_ext (l2.flatMap (tk 22) ++ [[125]]) [116, 101, 115, 116, 32, 113, 32, 123] ([116, 101, 115, 116, 32, 112, 32, 123] ++ s1) (by simp) hY.1 ⟨fun h => absurd h (by simp), fun h => absurd h hY.2⟩
 have hu : u = u' := List.append_cancel_left (e2.symm.trans e4)
 subst hu
 obtain ⟨s2, hs2⟩ : ∃ s2, u = 32 :: (s2 ++ [125]) := by
  obtain ⟨t, m, f1, f2, f3⟩ := flat_head h2
  have g1 : ∃ v, u = 32 :: v := by
   rw [f1, spt, sep_gap (by simp) (by simp)] at e2
   unfold gapT at e2
   rw [if_pos ⟨f2, f3⟩] at e2
   obtain ⟨v, hv, _⟩ := spt_ext m ([116, 101, 115, 116, 32, 113, 32, 123] ++ [32] ++ t) ([116, 101, 115, 116, 32, 113, 32, 123] ++ [32] ++ t) (by simp) (by simp) Iff.rfl
   rw [hv] at e2
   refine ⟨t ++ v, ?_⟩
   simpa using e2.symm
  have g2 : ∃ v, u = v ++ [32, 125] := by
   obtain ⟨v, hv, _⟩ := spt_ext (l2.flatMap (tk 22)) [116, 101, 115, 116, 32, 113, 32, 123] [116, 101, 115, 116, 32, 113, 32, 123] (by simp) (by simp) Iff.rfl
   rw [spt_app, spt_close hZ.1 hZ.2, hv] at e2
   refine ⟨v, ?_⟩
   have : [116, 101, 115, 116, 32, 113, 32, 123] ++ u = [116, 101, 115, 116, 32, 113, 32, 123] ++ (v ++ [32, 125]) := by rw [← e2]; simp
   exact List.append_cancel_left this
  obtain ⟨v, hv⟩ := g1
  obtain ⟨v', hv'⟩ := g2
  rcases List.eq_nil_or_concat v with rfl | ⟨q, c, rfl⟩
  ·
   rw [hv] at hv'
   have := congrArg List.length hv'
   simp at this
  ·
   rw [hv, List.concat_eq_append] at hv'
   have h9 : (32 :: q) ++ [c] = (v' ++ [32]) ++ [125] := by simpa using hv'
   have := List.append_inj_right' h9 rfl
   injection this with this _
   exact ⟨q, by rw [hv, this, List.concat_eq_append]⟩
 refine ⟨s1, s2, ?_, ?_, ?_, ?_⟩
 ·
  rw [p1, spt_app, e1, spt_close hX.1 hX.2]
 ·
  rw [p2, e2, hs2]
 ·
  rw [p3, List.flatMap_append, List.append_assoc, spt_app, e1, e3, hs2]
 ·
  rw [p4, List.flatMap_append, List.append_assoc, spt_app, e1', e5, hs2]
end Src
end Go.Proofs.YtpbhgebblpdmnaaDoor
namespace Go.Proofs.YtpbhgebblpdmnaaDoor
open Go.RowKit Wr Src
set_option linter.unusedVariables false
set_option maxRecDepth 100000
set_option maxHeartbeats 4000000 in
theorem called_any {g i : Nat} {w : World} {v : Value} {L : List Int} (h : MS g w v L i) (hi : i ≤ 100000000) : Calls Tryd.prog 14 #[pt g] w fun en w' => ∃ t : Str, en = .returned (sv t) ∧ t ∈ calledL ∧ (L.length ≤ i → t = [97]) ∧ MS g w' v L (i + 1) ∧ Kp (fun k => k = g) w w' := by
 obtain ⟨nb, hnb⟩ : ∃ n, n = w.heap.size := ⟨_, rfl⟩
 have HNb := Lh hnb.symm
 obtain ⟨w1, hw1⟩ : ∃ w1, w1 = w.alloc (.cells #[.string ⟨#[97]⟩, .string ⟨#[98]⟩, .string ⟨#[120]⟩, .string ⟨#[98, 111, 120]⟩, .string ⟨#[113]⟩, .string ⟨#[119, 50]⟩, .string ⟨#[99, 104, 101, 99, 107, 115]⟩, .string ⟨#[108, 111, 110, 103, 101, 115, 116, 110, 97, 109, 101, 49, 50, 51, 52, 53]⟩] 9) := ⟨_, rfl⟩
 have l1 : Below w.heap.size w w1 := by rw [hw1]; exact (Below.refl _ _).alloc (Nat.le_refl _) _
 have X1 := Lh (show Blk w1 nb 9 [.string ⟨#[97]⟩, .string ⟨#[98]⟩, .string ⟨#[120]⟩, .string ⟨#[98, 111, 120]⟩, .string ⟨#[113]⟩, .string ⟨#[119, 50]⟩, .string ⟨#[99, 104, 101, 99, 107, 115]⟩, .string ⟨#[108, 111, 110, 103, 101, 115, 116, 110, 97, 109, 101, 49, 50, 51, 52, 53]⟩] by rw [hw1, hnb]; exact Blk.new w _ _)
 have L1 := Lh l1
 have W1 := Lh hw1
 have HG := Lh (show nb ≠ g by have := h.lt; omega)
 have HT := Lh (take_any (h.below l1) hi 8 (by omega) (by omega))
 have bsq : ∀ W : World, (Instr.buildSlice 35 8 #[(0, .string ⟨#[97]⟩), (1, .string ⟨#[98]⟩), (2, .string ⟨#[120]⟩), (3, .string ⟨#[98, 111, 120]⟩), (4, .string ⟨#[113]⟩), (5, .string ⟨#[119, 50]⟩), (6, .string ⟨#[99, 104, 101, 99, 107, 115]⟩), (7, .string ⟨#[108, 111, 110, 103, 101, 115, 116, 110, 97, 109, 101, 49, 50, 51, 52, 53]⟩)]).run Tryd.prog W = .ok (.slice (some ⟨W.heap.size, 0, none⟩) 8 8) (W.alloc (.cells #[.string ⟨#[97]⟩, .string ⟨#[98]⟩, .string ⟨#[120]⟩, .string ⟨#[98, 111, 120]⟩, .string ⟨#[113]⟩, .string ⟨#[119, 50]⟩, .string ⟨#[99, 104, 101, 99, 107, 115]⟩, .string ⟨#[108, 111, 110, 103, 101, 115, 116, 110, 97, 109, 101, 49, 50, 51, 52, 53]⟩] 9)) := fun _ => by kernel_rfl
 clear h hi hnb hw1 l1
 go_enter Tryd.func14, Tryd.ntmps14
 go_wp2_with fail
 rw [HNb.out, ← W1.out]
 refine HT.out.mono ?_
 rintro e w2 ⟨r, hr, hr0, rfl, hms, hkp⟩
 have X2 := Lh (hkp.blk X1.out HG.out)
 have HM := Lh hms
 have HK := Lh ((Kp.of_below' (Z := fun k => k = g) L1.out).trans hkp (fun _ _ h => h))
 obtain ⟨t, ht⟩ : ∃ t, calledL[r]? = some t := ⟨_, List.getElem?_eq_getElem (show r < calledL.length from hr)⟩
 have cr : w2.cell? ⟨nb, r, none⟩ = some (sv t) := by
  refine (X2.out.cell r).trans ?_
  show (calledL.map (fun t => sv t))[r]? = _
  rw [List.getElem?_map, ht]; rfl
 have HMem := Lh (List.mem_of_getElem? ht)
 have HFi := Lh (show L.length ≤ i → t = [97] from fun e => by have := hr0.none e; subst this; injection ht with ht; exact ht.symm)
 have hrI : (r : Int) < 8 := by omega
 clear hr hr0 hms hkp ht X1 L1 W1 HT bsq
 go_wp2_with fail
 exact bodyPost_ret (v := sv t) (by simp [results]) rfl ⟨t, rfl, HMem.out, HFi.out, HM.out, HK.out⟩
set_option maxHeartbeats 4000000 in
theorem own_any {g i : Nat} {w : World} {v : Value} {L : List Int} (h : MS g w v L i) (hi : i ≤ 100000000) : Calls Tryd.prog 27 #[pt g] w fun en w' => ∃ t : Str, en = .returned (sv t) ∧ t ∈ ownL ∧ (L.length ≤ i → t = [97]) ∧ MS g w' v L (i + 1) ∧ Kp (fun k => k = g) w w' := by
 obtain ⟨nb, hnb⟩ : ∃ n, n = w.heap.size := ⟨_, rfl⟩
 have HNb := Lh hnb.symm
 obtain ⟨w1, hw1⟩ : ∃ w1, w1 = w.alloc (.cells #[.string ⟨#[97]⟩, .string ⟨#[105]⟩, .string ⟨#[114, 101, 97, 100]⟩, .string ⟨#[108, 111, 110, 103, 101, 115, 116, 108, 111, 99, 97, 108, 49, 50, 51, 52]⟩] 9) := ⟨_, rfl⟩
 have l1 : Below w.heap.size w w1 := by rw [hw1]; exact (Below.refl _ _).alloc (Nat.le_refl _) _
 have X1 := Lh (show Blk w1 nb 9 [.string ⟨#[97]⟩, .string ⟨#[105]⟩, .string ⟨#[114, 101, 97, 100]⟩, .string ⟨#[108, 111, 110, 103, 101, 115, 116, 108, 111, 99, 97, 108, 49, 50, 51, 52]⟩] by rw [hw1, hnb]; exact Blk.new w _ _)
 have L1 := Lh l1
 have W1 := Lh hw1
 have HG := Lh (show nb ≠ g by have := h.lt; omega)
 have HT := Lh (take_any (h.below l1) hi 4 (by omega) (by omega))
 have bsq : ∀ W : World, (Instr.buildSlice 35 4 #[(0, .string ⟨#[97]⟩), (1, .string ⟨#[105]⟩), (2, .string ⟨#[114, 101, 97, 100]⟩), (3, .string ⟨#[108, 111, 110, 103, 101, 115, 116, 108, 111, 99, 97, 108, 49, 50, 51, 52]⟩)]).run Tryd.prog W = .ok (.slice (some ⟨W.heap.size, 0, none⟩) 4 4) (W.alloc (.cells #[.string ⟨#[97]⟩, .string ⟨#[105]⟩, .string ⟨#[114, 101, 97, 100]⟩, .string ⟨#[108, 111, 110, 103, 101, 115, 116, 108, 111, 99, 97, 108, 49, 50, 51, 52]⟩] 9)) := fun _ => by kernel_rfl
 clear h hi hnb hw1 l1
 go_enter Tryd.func27, Tryd.ntmps27
 go_wp2_with fail
 rw [HNb.out, ← W1.out]
 refine HT.out.mono ?_
 rintro e w2 ⟨r, hr, hr0, rfl, hms, hkp⟩
 have X2 := Lh (hkp.blk X1.out HG.out)
 have HM := Lh hms
 have HK := Lh ((Kp.of_below' (Z := fun k => k = g) L1.out).trans hkp (fun _ _ h => h))
 obtain ⟨t, ht⟩ : ∃ t, ownL[r]? = some t := ⟨_, List.getElem?_eq_getElem (show r < ownL.length from hr)⟩
 have cr : w2.cell? ⟨nb, r, none⟩ = some (sv t) := by
  refine (X2.out.cell r).trans ?_
  show (ownL.map (fun t => sv t))[r]? = _
  rw [List.getElem?_map, ht]; rfl
 have HMem := Lh (List.mem_of_getElem? ht)
 have HFi := Lh (show L.length ≤ i → t = [97] from fun e => by have := hr0.none e; subst this; injection ht with ht; exact ht.symm)
 have hrI : (r : Int) < 4 := by omega
 clear hr hr0 hms hkp ht X1 L1 W1 HT bsq
 go_wp2_with fail
 exact bodyPost_ret (v := sv t) (by simp [results]) rfl ⟨t, rfl, HMem.out, HFi.out, HM.out, HK.out⟩
end Go.Proofs.YtpbhgebblpdmnaaDoor
namespace Go.Proofs.YtpbhgebblpdmnaaDoor
open Go.RowKit Wr Src
set_option linter.unusedVariables false
set_option maxRecDepth 100000
theorem cat3' (a b : Str) : ((⟨a.toArray⟩ : ByteArray) ++ ⟨#[46]⟩) ++ ⟨b.toArray⟩ = ⟨(a ++ 46 :: b).toArray⟩ := by
 apply ByteArray.ext
 simp
def GOut (g : Nat) (w : World) (v : Value) (L : List Int) (F : Nd → Nat → Prop) (en : Ending) (w' : World) : Prop :=
 ∃ n j cs, en = .returned (.agg cs.toArray) ∧ F n j ∧ MS g w' v L j ∧ NV w' (fun k => w.heap.size ≤ k) n cs ∧ Kp (fun k => k = g) w w' ∧ w.heap.size < w'.heap.size
set_option maxHeartbeats 4000000 in
theorem gat_any {g i : Nat} {w : World} {v : Value} {L : List Int} (h : MS g w v L i) (hi : i ≤ 10000000) : Calls Tryd.prog 29 #[pt g] w (GOut g w v L (AtF L.length i)) := by
 have z1 := zero25
 obtain ⟨wb, hwb⟩ : ∃ wb, wb = w.heap.size := ⟨_, rfl⟩
 have HWB := Lh hwb
 have HWb := Lh hwb.symm
 obtain ⟨w0, hw0⟩ : ∃ w0, w0 = w.alloc (.cells #[.int .i64 0, .string ⟨#[]⟩, .int .i64 0, .slice none 0 0] 25) := ⟨_, rfl⟩
 have l0 : Below w.heap.size w w0 := by rw [hw0]; exact (Below.refl _ _).alloc (Nat.le_refl _) _
 have Z0 := Lh (show Blk w0 wb 25 [.int .i64 0, .string ⟨#[]⟩, .int .i64 0, .slice none 0 0] by rw [hw0, hwb]; exact Blk.new w _ _)
 have L0 := Lh l0
 have HG := Lh (show g < wb by have := h.lt; omega)
 have W0 := Lh hw0
 have HT := Lh (take_any (h.below l0) (by omega) 3 (by omega) (by omega))
 have HI := Lh hi
 clear h hwb hw0 l0 hi
 go_enter Tryd.func29, Tryd.ntmps29
 go_upto_region 1 with fail
 rw [HWb.out]
 rw [← W0.out]
 go_wp2_with fail
 refine HT.out.mono ?_
 rintro e w1 ⟨r, hr, hr0, rfl, m1, k1⟩
 have M1 := Lh m1
 have Z1 := Lh (k1.blk Z0.out (by have := HG.out; omega))
 have K1 := Lh ((Kp.of_below' (Z := fun k => k = g) L0.out).trans k1 (fun _ _ h => h))
 have H0 := Lh hr0
 clear m1 k1 hr0 Z0 L0 HT
 by_cases hp : r = 0
 ·
  have hpI : ¬ (0 : Int) < (r : Int) := by omega
  have HC := Lh (called_any M1.out (by have := HI.out; omega))
  clear hp hr
  go_wp2_with fail
  refine HC.out.mono ?_
  rintro e w2 ⟨t, rfl, ht, hta, m2, k2⟩
  have M2 := Lh m2
  have Z2 := Lh (k2.blk Z1.out (by have := HG.out; omega))
  have K2 := Lh (K1.out.trans k2 (fun _ _ h => h))
  have HTt := Lh (And.intro ht hta)
  have HC2 := Lh (called_any M2.out (by have := HI.out; omega))
  have htl : t.length ≤ 16 := (called_ok t ht).2
  clear m2 k2 ht hta HC Z1 K1 M1
  go_wp2_with fail
  refine HC2.out.mono ?_
  rintro e w3 ⟨u, rfl, hu, hua, m3, k3⟩
  have M3 := Lh m3
  have Z3 := Lh (k3.blk Z2.out (by have := HG.out; omega))
  have K3 := Lh (K2.out.trans k3 (fun _ _ h => h))
  have HTu := Lh (And.intro hu hua)
  have hul : u.length ≤ 16 := (called_ok u hu).2
  have HCat := Lh (cat3' t u)
  have hts : (⟨t.toArray⟩ : ByteArray).size = t.length := rfl
  have hus : (⟨u.toArray⟩ : ByteArray).size = u.length := rfl
  have hq0 : t.length + 1 ≤ 9223372036854775807 := by omega
  have hq1 : t.length + 1 + u.length ≤ 9223372036854775807 := by omega
  clear m3 k3 hu hua HC2 Z2 K2 M2
  go_wp2_with (first | (with_reducible refine wpList_store_blk rfl 25 4 size25 (.tmp 2) (.tmp 17) rfl wb [.int .i64 35, .string (((⟨t.toArray⟩ : ByteArray) ++ ⟨#[46]⟩) ++ ⟨u.toArray⟩), .int .i64 0, .slice none 0 0] rfl rfl _ Z3.out rfl rfl rfl ?_; intro w8 hb8 hk8))
  rw [HCat.out] at hb8
  refine bodyPost_ret (v := .agg (NC 35 (t ++ 46 :: u) 0 (.slice none 0 0)).toArray) (box_res 4 size25 rfl _ _ wb (NC 35 (t ++ 46 :: u) 0 (.slice none 0 0)) _ rfl hb8 rfl Tryd.underlying25 rfl) rfl ⟨.mk 35 (t ++ 46 :: u) 0 [], i + 3, _, rfl, Or.inr ⟨t, u, HTt.out.1, HTu.out.1, HTt.out.2, HTu.out.2, rfl, rfl⟩, ⟨hk8.blk M3.out.b (by have := HG.out; omega), M3.out.l.kp hk8 (fun j hj e => by have := HG.out; omega)⟩, NV.leaf (fine_small (by omega) (by omega) (by omega) (by omega) (by rw [List.length_append, List.length_cons]; omega)), K3.out.trans hk8 (fun k hk e => by have := HWB.out; omega), by have h1 := hk8.size; have h2 := Z3.out.lt; have h3 := HWB.out; omega⟩
 ·
  have hpI : (0 : Int) < (r : Int) := by omega
  have HLt := Lh (show i < L.length by
   rcases Nat.lt_or_ge i L.length with h | h
   ·
    exact h
   ·
    exact absurd (H0.out.none h) hp)
  have HC := Lh (called_any M1.out (by have := HI.out; omega))
  clear hp hr
  go_wp2_with fail
  refine HC.out.mono ?_
  rintro e w2 ⟨t, rfl, ht, hta, m2, k2⟩
  have M2 := Lh m2
  have Z2 := Lh (k2.blk Z1.out (by have := HG.out; omega))
  have K2 := Lh (K1.out.trans k2 (fun _ _ h => h))
  have HTt := Lh (And.intro ht hta)
  have htl : t.length ≤ 16 := (called_ok t ht).2
  clear m2 k2 ht hta HC Z1 K1 M1
  go_wp2_with (first | (with_reducible refine wpList_store_blk rfl 25 4 size25 (.tmp 2) (.tmp 9) rfl wb [.int .i64 34, sv t, .int .i64 0, .slice none 0 0] rfl rfl _ Z2.out rfl rfl rfl ?_; intro w8 hb8 hk8))
  exact bodyPost_ret (v := .agg (NC 34 t 0 (.slice none 0 0)).toArray) (box_res 4 size25 rfl _ _ wb (NC 34 t 0 (.slice none 0 0)) _ rfl hb8 rfl Tryd.underlying25 rfl) rfl ⟨.mk 34 t 0 [], i + 2, _, rfl, Or.inl ⟨t, HTt.out.1, HTt.out.2, HLt.out, rfl, rfl⟩, ⟨hk8.blk M2.out.b (by have := HG.out; omega), M2.out.l.kp hk8 (fun j hj e => by have := HG.out; omega)⟩, NV.leaf (fine_small (by omega) (by omega) (by omega) (by omega) (by omega)), K2.out.trans hk8 (fun k hk e => by have := HWB.out; omega), by have h1 := hk8.size; have h2 := Z2.out.lt; have h3 := HWB.out; omega⟩
end Go.Proofs.YtpbhgebblpdmnaaDoor
