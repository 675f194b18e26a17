/-
  Rows of ratios of a call's own; lists of integers that came in.
  No condition but that they can be read.
-/
import Derived.Test.YtbfhilbagojdnaaSo
namespace Go.Proofs.Ytbfhilbagojdnaa
open Go.RowKit Wr Go.Proofs.Ytbfhilbagojdnaa.Nm
set_option linter.unusedVariables false
set_option maxRecDepth 100000

def isSl (u : Value) : Bool := match u with | .slice _ _ _ => true | _ => false
theorem isSl_cell (u : Value) (h : isSl u = true) : u.oneCell' = true := by
  cases u <;> simp_all [isSl]
  rfl
theorem infoR : (Try.prog.info? 28).map (fun i => (i.zero, i.size, i.bytes)) = some (some (.agg #[.slice none 0 0, .slice none 0 0]), 2, 48) := by kernel_rfl
theorem flat_append : ∀ a b : List (Value × Value), flat (a ++ b) = flat a ++ flat b
  | [], b => rfl
  | p :: a, b => by simp only [flat, List.cons_append, flat_append a b]
theorem flat_sl : ∀ {nv : List (Value × Value)}, (∀ p ∈ nv, isSl p.1 = true ∧ isSl p.2 = true) → ∀ u ∈ flat nv, isSl u = true
  | [], _, u, hu => by simp [flat] at hu
  | p :: l, h, u, hu => by
    simp only [flat, List.mem_cons] at hu
    rcases hu with rfl | rfl | hu
    · exact (h p (List.mem_cons_self ..)).1
    · exact (h p (List.mem_cons_self ..)).2
    · exact flat_sl (fun q hq => h q (List.mem_cons_of_mem _ hq)) u hu
theorem zero_sl (k : Nat) : ∀ u ∈ (Builtin.zeroCells (Value.agg #[.slice none 0 0, .slice none 0 0]).cells k).toList, isSl u = true := by
  intro u hu
  have e : (Value.agg #[.slice none 0 0, .slice none 0 0]).cells = #[.slice none 0 0, .slice none 0 0] := rfl
  rw [e] at hu
  unfold Builtin.zeroCells at hu
  rw [Array.toList_map] at hu
  obtain ⟨i, _, rfl⟩ := List.mem_map.1 hu
  have h2 : i % 2 = 0 ∨ i % 2 = 1 := by omega
  show isSl ((#[.slice none 0 0, .slice none 0 0] : Array Value)[i % 2]!) = true
  rcases h2 with h | h <;> rw [h] <;> rfl
/-- A row of ratios of the call's own: all cells of its block are slices. -/
structure Rw (B : Nat) (W : World) (v : Value) (n : Nat) (vs : List (Value × Value)) : Prop where
  own : W.ownsRow B 28 2 v n (flat vs)
  all : ∀ g cur t f, v.ownBlock = some g → W.heap[g]? = some (.cells cur t f) → ∀ u ∈ cur.toList, isSl u = true
theorem Rw.nil (B : Nat) (W : World) : Rw B W (.slice none 0 0) 0 [] := ⟨World.ownsRow_nil W B 28 2, fun g cur t f h => by simp [Value.ownBlock] at h⟩
theorem Rw.below {B : Nat} {W W' : World} {v : Value} {n : Nat} {vs : List (Value × Value)} (h : Rw B W v n vs) (hb : Below W.heap.size W W') : Rw B W' v n vs := by
  refine ⟨own_below h.own hb, fun g cur t f hg hc => h.all g cur t f hg ?_⟩
  rw [← hb.block g (h.own.lt g hg).2]; exact hc
theorem Rw.len {B : Nat} {W : World} {v : Value} {n : Nat} {vs : List (Value × Value)} (h : Rw B W v n vs) : vs.length = n := by have := h.own.1; rw [flat_len] at this; omega
theorem run_append_rw {B : Nat} {W : World} {v : Value} {n : Nat} {vs nv : List (Value × Value)} (ty : TypeId) (hR : Rw B W v n vs) (ad : Addr) (m c : Nat) (hl : nv.length = m) (hnews : ∀ j u, (flat nv)[j]? = some u → W.cell? (ad.add j) = some u) (hs : ∀ p ∈ nv, isSl p.1 = true ∧ isSl p.2 = true) (hb : n + m ≤ 1000000) (hbase : B ≤ W.heap.size) :
    ∃ v' W', (Builtin.append_ #[23, 23] ty #[v, .slice (some ad) m c]).run Try.prog W = .ok v' W' ∧ Rw B W' v' (n + m) (vs ++ nv) ∧ W.grownBy W' v.ownBlock ∧ (v'.ownBlock = v.ownBlock ∨ v'.ownBlock = some W.heap.size) := by
  obtain ⟨i0, hi0, hz0, hz1, hz2⟩ := info_parts infoR
  have hlen : (flat nv).length = m * 2 := by rw [flat_len, hl, Nat.mul_comm]
  have hns := flat_sl hs
  have h1 : ∀ u ∈ flat nv, u.oneCell' = true := fun u hu => isSl_cell u (hns u hu)
  obtain ⟨v', w', hr, h2, h3, h4, h5⟩ := run_append_own_at (P := Try.prog) W B 23 ty 28 i0 _ 2 48 Try.underlying23 hi0 hz0 hz1 hz2 rfl (by decide) v n (flat vs) hR.own ad m c (flat nv) hlen hnews h1 (by unfold maxLen; omega) (by omega) hbase
  refine ⟨v', w', hr, ⟨by rw [flat_append]; exact h2, ?_⟩, h3, h5⟩
  intro g cur t f hg hcur
  have hall := hR.all
  have hown1 := hR.own.1
  have hcells : ∀ g0, v.ownBlock = some g0 → ∀ j u, (flat vs)[j]? = some u → W.cell? ((⟨g0, 0, none⟩ : Addr).add j) = some u := fun g0 h => hR.own.cells h
  rcases hR.own.2 with ⟨rfl, rfl⟩ | ⟨g0, cap, cur0, rfl, hbg, hg0, hnc, hcm, hcs, htake⟩
  · by_cases hm : m = 0
    · have e := h4.2 ⟨rfl, hm⟩
      rw [e] at hg; simp [Value.ownBlock] at hg
    · have hr' := run_append_nil (P := Try.prog) W 23 ty 28 i0 _ Try.underlying23 hi0 hz0 ad m c (flat nv) (by rw [hz1]; exact hlen) hnews (by omega) (by omega) (by rw [hz2]; omega)
      rw [hr'] at hr
      injection hr with e1 e2
      subst e1 e2
      have eg : W.heap.size = g := by simpa [Value.ownBlock] using hg
      subst eg
      have hx := (heap_alloc_new W.drew _).symm.trans hcur
      injection hx with hx
      injection hx with hx
      subst hx
      intro u hu
      rw [Array.toList_append, List.mem_append] at hu
      rcases hu with hu | hu
      · exact hns u hu
      · exact zero_sl _ u hu
  · have hc0 := hall g0 cur0 28 (0, 0) rfl hg0
    by_cases hroom : n + m ≤ cap
    · have hr' := run_append_room (P := Try.prog) W 23 ty 28 i0 Try.underlying23 hi0 g0 n cap cur0 hg0 ad m c (flat nv) (by rw [hz1]; exact hlen) hnews h1 hroom (by rw [hz1, hlen, hcs]; omega)
      rw [hr'] at hr
      injection hr with e1 e2
      subst e1 e2
      have eg : g0 = g := by simpa [Value.ownBlock] using hg
      subst eg
      have hx := (heap_setRow W g0 _ cur0 28 hg0).symm.trans hcur
      injection hx with hx
      injection hx with hx
      subst hx
      intro u hu
      simp only [List.mem_append] at hu
      rcases hu with (hu | hu) | hu
      · exact hc0 u (List.mem_of_mem_take hu)
      · exact hns u hu
      · exact hc0 u (List.mem_of_mem_drop hu)
    · have hr' := run_append_grow (P := Try.prog) W 23 ty 28 i0 _ Try.underlying23 hi0 hz0 ⟨g0, 0, none⟩ n cap (flat vs) (by rw [hz1]; exact hown1) (hcells g0 rfl) ad m c (flat nv) (by rw [hz1]; exact hlen) hnews (by omega) (by omega) (growslice_fits (by omega) (by rw [hz2]; omega))
      rw [hr'] at hr
      injection hr with e1 e2
      subst e1 e2
      have eg : W.heap.size = g := by simpa [Value.ownBlock] using hg
      subst eg
      have hx := (heap_alloc_new W.drew _).symm.trans hcur
      injection hx with hx
      injection hx with hx
      subst hx
      intro u hu
      simp only [Array.toList_append, List.mem_append] at hu
      rcases hu with (hu | hu) | hu
      · have : u ∈ flat vs := by simpa using hu
        rw [← htake] at this
        exact hc0 u (List.mem_of_mem_take this)
      · exact hns u (by simpa using hu)
      · exact zero_sl _ u hu
/-- An append of ratios that can be read to a row of the call's own. -/
theorem wp_app_rw {B : Nat} {w : World} {o : Oper} {a : Act} {K : Act → World → Prop} {Q : Exit → Act → World → Prop} (s x : Operand)
    (ho : o.op = .call { callee := .builtin .append, args := #[s, x], argTypes := #[23, 23] }) (v : Value) (n : Nat) (vs : List (Value × Value)) (hs : a.eval s = v) (hown : Rw B w v n vs)
    (A : Option Addr) (m c : Nat) (nv : List (Value × Value)) (hx : a.eval x = .slice A m c) (hl : nv.length = m) (hnil : A = none → c = 0) (hr : Rd w w.heap.size A (flat nv)) (hsl : ∀ p ∈ nv, isSl p.1 = true ∧ isSl p.2 = true) (hb : n + m ≤ 1000000) (hbase : B ≤ w.heap.size)
    (h : ∀ v' w', Rw B w' v' (n + m) (vs ++ nv) → w.grownBy w' v.ownBlock → (v'.ownBlock = v.ownBlock ∨ v'.ownBlock = some w.heap.size) → K (a.put o.dst v') w') : o.wp Try.prog a w K Q := by
  obtain ⟨i0, hi0, hz0, hz1, hz2⟩ := info_parts infoR
  by_cases hne : nv = []
  · subst hne
    have hm : m = 0 := by simpa using hl.symm
    subst hm
    cases A with
    | none =>
      have hc := hnil rfl
      subst hc
      refine Lib.wp_append_run w s x 23 23 ho _ _ hs hx _ w (run_append_owned_none w B 23 _ 28 i0 2 Try.underlying23 hi0 _ n _ hown.own) (h _ w ?_ (World.grownBy.refl _ _) (Or.inl rfl))
      rw [List.append_nil, Nat.add_zero]; exact hown
    | some ad =>
      obtain ⟨v', w', hrun, h2, h3, h5⟩ := run_append_rw o.type hown ad 0 c (nv := []) rfl (fun j u hu => by simp [flat] at hu) hsl hb hbase
      exact Lib.wp_append_run w s x 23 23 ho _ _ hs hx v' w' hrun (h v' w' h2 h3 h5)
  · have hfn : flat nv ≠ [] := by
      cases nv with
      | nil => exact absurd rfl hne
      | cons p l => simp [flat]
    obtain ⟨g2, off, rfl, hg2, hcell⟩ := hr hfn
    obtain ⟨v', w', hrun, h2, h3, h5⟩ := run_append_rw o.type hown ⟨g2, off, none⟩ m c hl (fun j u hu => by rw [Addr.add_lit]; exact hcell j u hu) hsl hb hbase
    exact Lib.wp_append_run w s x 23 23 ho _ _ hs hx v' w' hrun (h v' w' h2 h3 h5)
theorem wpList_app_rw {B : Nat} {w : World} {ops : Array Oper} {rest : List Oper} {o : Oper} {a : Act} {Q : Exit → Act → World → Prop} (hgd : o.guard = none) (s x : Operand)
    (ho : o.op = .call { callee := .builtin .append, args := #[s, x], argTypes := #[23, 23] }) (v : Value) (n : Nat) (vs : List (Value × Value)) (hs : a.eval s = v) (hown : Rw B w v n vs)
    (A : Option Addr) (m c : Nat) (nv : List (Value × Value)) (hx : a.eval x = .slice A m c) (hl : nv.length = m) (hnil : A = none → c = 0) (hr : Rd w w.heap.size A (flat nv)) (hsl : ∀ p ∈ nv, isSl p.1 = true ∧ isSl p.2 = true) (hb : n + m ≤ 1000000) (hbase : B ≤ w.heap.size)
    (h : ∀ v' w', Rw B w' v' (n + m) (vs ++ nv) → w.grownBy w' v.ownBlock → (v'.ownBlock = v.ownBlock ∨ v'.ownBlock = some w.heap.size) → wpList Try.prog ops Q rest (a.put o.dst v') w') : wpList Try.prog ops Q (o :: rest) a w :=
  wpList_plain hgd fun _ hK => wp_app_rw s x ho v n vs hs hown A m c nv hx hl hnil hr hsl hb hbase fun v' w' h1 h2 h3 => hK _ _ (h v' w' h1 h2 h3)
/-- Limbs outlive the growth of a row of ratios. -/
theorem Wr.Sl.grown_rw {B n : Nat} {W W' : World} {v u : Value} {vs : List (Value × Value)} {l : List Nat} (h : Sl W u l) (hR : Rw B W v n vs) (hg : W.grownBy W' v.ownBlock) : Sl W' u l := by
  obtain ⟨A, c, e, hc, hn, hr⟩ := h
  refine ⟨A, c, e, hc, hn, fun hne => ?_⟩
  obtain ⟨g, o, rfl, hgB, hcell⟩ := hr hne
  have hl : 0 < l.length := by
    rcases Nat.eq_zero_or_pos l.length with h0 | h0
    · exact absurd (by rw [List.length_eq_zero_iff.1 h0]; rfl) hne
    · exact h0
  have hgne : some g ≠ v.ownBlock := by
    intro e2
    have hc0 := hcell 0 _ (Lc_get l 0 hl)
    rcases hR.own.2 with ⟨rfl, _⟩ | ⟨g0, cap, cur0, rfl, _, hg0, _⟩
    · simp [Value.ownBlock] at e2
    · have eg : g = g0 := by simpa [Value.ownBlock] using e2
      subst eg
      rw [Nat.add_zero, cell_of_row W g o cur0 28 (0, 0) hg0] at hc0
      have hm : (Value.int .u32 ((l[0] : Nat) : Int)) ∈ cur0.toList := by
        have := Array.mem_of_getElem? hc0
        exact Array.mem_def.1 this
      have := hR.all g cur0 28 (0, 0) rfl hg0 _ hm
      simp [isSl] at this
  refine ⟨g, o, rfl, Nat.lt_of_lt_of_le hgB hg.size, fun j u' hu => ?_⟩
  rw [World.cell?_of_block (w := W) (hg.block g hgB hgne)]
  exact hcell j u' hu
theorem Rk.grown_rw {B n : Nat} {W W' : World} {v v1 v2 : Value} {vs : List (Value × Value)} {r : Rt} (h : Rk W v1 v2 r) (hR : Rw B W v n vs) (hg : W.grownBy W' v.ownBlock) : Rk W' v1 v2 r :=
  ⟨h.s1.grown_rw hR hg, h.s2.grown_rw hR hg, h.ok, h.l1, h.l2⟩
theorem Wr.Sl.slV {W : World} {u : Value} {l : List Nat} (h : Sl W u l) : isSl u = true := by
  obtain ⟨A, c, rfl, _⟩ := h; rfl
theorem Rw.rls {B : Nat} {W : World} {v : Value} {n : Nat} {vs : List (Value × Value)} {L : List Rt} (h : Rw B W v n vs) (hl : L.length = n) (hk : ∀ (i : Nat) r, L[i]? = some r → ∃ p, vs[i]? = some p ∧ Rk W p.1 p.2 r) : Rls W v L := by
  obtain ⟨A, c, e, h1, h2, h3⟩ := own_form h.own
  have h4 := h.len
  subst hl
  exact ⟨A, c, vs, e, h1, h2, h3, h4, hk⟩
/-- A list of integers that came in. -/
def In (W : World) (A : Option Addr) (n c : Nat) (L : List Int) : Prop := L.length = n ∧ n ≤ c ∧ (∀ x ∈ L, -9223372036854775808 ≤ x ∧ x ≤ 9223372036854775807) ∧ (L ≠ [] → ∃ g o, A = some ⟨g, o, none⟩ ∧ g < W.heap.size ∧ ∀ j x, L[j]? = some x → W.cell? ⟨g, o + j, none⟩ = some (.int .i64 x))
end Go.Proofs.Ytbfhilbagojdnaa
