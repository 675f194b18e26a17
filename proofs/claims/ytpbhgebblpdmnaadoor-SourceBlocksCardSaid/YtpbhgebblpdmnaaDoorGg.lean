/-
  The generator: what its functions of trees share.
  No condition but the lengths.
-/
import Derived.Test.YtpbhgebblpdmnaaDoorGGsGbGnGp
import Derived.Test.YtpbhgebblpdmnaaDoorGPsPu
namespace Go.Proofs.YtpbhgebblpdmnaaDoor
open Go.RowKit Wr Src
set_option linter.unusedVariables false
set_option maxRecDepth 100000
def tkN (L : List Int) (i m : Nat) : Nat := match L[i]? with | some z => arI z m | none => 0
theorem TkF.eq {L : List Int} {i m r : Nat} (h : TkF L i m r) : r = tkN L i m := by
 unfold tkN
 cases hq : L[i]? with
 | none => exact h.none (List.getElem?_eq_none_iff.1 hq)
 | some z => exact h.some z hq
theorem tkN_lt (L : List Int) (i : Nat) {m : Nat} (h : 0 < m) : tkN L i m < m := by
 unfold tkN
 split
 ·
  exact arI_lt _ h
 ·
  exact h
theorem MS.kp {g : Nat} {w w' : World} {v : Value} {L : List Int} {i : Nat} {Z : Nat → Prop} (h : MS g w v L i) (k : Kp Z w w') (hz : ∀ j, Z j → g < j) : MS g w' v L i :=
 ⟨k.blk h.b (fun e => by have := hz g e; omega), h.l.kp k (fun j hj e => by have := hz j e; omega)⟩
theorem bs1 (k1 : Int) (t1 : Str) (z1 : Int) (A1 : Option Addr) (n1 c1 : Nat) (W : World) : (Instr.buildSlice 23 1 #[(0, .agg #[.int .i64 k1, .string ⟨t1.toArray⟩, .int .i64 z1, .slice A1 n1 c1])]).run Tryd.prog W = .ok (.slice (some ⟨W.heap.size, 0, none⟩) 1 1) (W.alloc (.cells #[.int .i64 k1, .string ⟨t1.toArray⟩, .int .i64 z1, .slice A1 n1 c1] 25)) := by kernel_rfl
theorem bs2 (k1 : Int) (t1 : Str) (z1 : Int) (A1 : Option Addr) (n1 c1 : Nat) (k2 : Int) (t2 : Str) (z2 : Int) (A2 : Option Addr) (n2 c2 : Nat) (W : World) : (Instr.buildSlice 23 2 #[(0, .agg #[.int .i64 k1, .string ⟨t1.toArray⟩, .int .i64 z1, .slice A1 n1 c1]), (1, .agg #[.int .i64 k2, .string ⟨t2.toArray⟩, .int .i64 z2, .slice A2 n2 c2])]).run Tryd.prog W = .ok (.slice (some ⟨W.heap.size, 0, none⟩) 2 2) (W.alloc (.cells #[.int .i64 k1, .string ⟨t1.toArray⟩, .int .i64 z1, .slice A1 n1 c1, .int .i64 k2, .string ⟨t2.toArray⟩, .int .i64 z2, .slice A2 n2 c2] 25)) := by kernel_rfl
theorem nl_two {w : World} {P : Nat → Prop} {a b : Nd} {x y : List Value} (h : NV w P a x) (h2 : NV w P b y) : NL w P [a, b] (x ++ y) := NL.cons h (NL.one h2)
theorem nv_built {w : World} {P : Nat → Prop} {gz : Nat} {k : Int} {t : Str} {z : Int} {l : List Nd} {xs : List Value} (hb : Blk w gz 25 xs) (hP : P gz) (hl : NL w P l xs) (hf : Fine k t z) (hn : l.length ≤ 1000) : NV w P (.mk k t z l) (NC k t z (.slice (some ⟨gz, 0, none⟩) l.length l.length)) :=
 NV.intro hf (by omega) (Nat.le_refl _) (fun e => by cases e) (xs := xs) (fun _ => ⟨gz, 0, rfl, hP, fun j u hu => by rw [Nat.zero_add, hb.cell]; exact hu⟩) hl
structure GS (g wb nb : Nat) (w W : World) (vv : Value) (LL : List Int) (j : Nat) : Prop where
 m : MS g W vv LL j
 z : Blk W wb 25 Z4
 k : Kp (fun k => k = g) w W
 h : wb = w.heap.size ∧ g < wb ∧ wb < nb ∧ nb < W.heap.size
section
variable {g wb nb : Nat} {w W W' : World} {vv : Value} {LL : List Int} {j j' : Nat} {Z : Nat → Prop}
theorem GS.call (h : GS g wb nb w W vv LL j) (hm : MS g W' vv LL j') (hk : Kp (fun k => k = g) W W') : GS g wb nb w W' vv LL j' := by
 obtain ⟨h1, h2, h3, h4⟩ := h.h
 exact ⟨hm, hk.blk h.z (by omega), h.k.trans hk (fun _ _ e => e), h1, h2, h3, Nat.lt_of_lt_of_le h4 hk.size⟩
theorem GS.keep (h : GS g wb nb w W vv LL j) (hk : Kp Z W W') (hz : ∀ j, Z j → wb < j) : GS g wb nb w W' vv LL j := by
 obtain ⟨h1, h2, h3, h4⟩ := h.h
 exact ⟨h.m.kp hk (fun j hj => by have := hz j hj; omega), hk.blk h.z (fun e => by have := hz wb e; omega), h.k.trans hk (fun k hk' e => by have := hz k e; omega), h1, h2, h3, Nat.lt_of_lt_of_le h4 hk.size⟩
theorem GS.fit (h : GS g wb nb w W vv LL j) : nb < W.heap.size := h.h.2.2.2
end
theorem KR.built {W : World} {nb gz : Nat} {n : Nd} {k z : Int} {t : Str} {v2 : Value} (hb : Blk W gz 25 (NC k t z v2)) (hg : nb + 2 ≤ gz) (hv : NV W (fun j => nb < j ∧ j ≠ gz) n (NC k t z v2)) : KR W nb (.slice (some ⟨gz, 0, none⟩) 1 1) [n] (NC k t z v2) := by
 refine ⟨⟨rfl, Or.inr ⟨gz, 1, (NC k t z v2).toArray, rfl, hg, hb, Nat.le_refl _, by unfold maxLen; omega, rfl, rfl⟩⟩, ?_, by simp⟩
 refine NL.keep (fun j h1 h2 => ⟨rfl, h1.1, fun e => h1.2 ?_⟩) _ _ (NL.one hv)
 injection e
theorem nc_one (k : Int) (t : Str) (z : Int) (A : Option Addr) (n c : Nat) : ∀ u ∈ NC k t z (.slice A n c), u.oneCell' = true := by
 intro u hu
 unfold NC at hu
 simp only [List.mem_cons, List.not_mem_nil, or_false] at hu
 rcases hu with rfl | rfl | rfl | rfl <;> rfl
theorem KR.push1 {w w1 : World} {b g c : Nat} {v : Value} {l : List Nd} {xs : List Value} {n : Nd} {cs : List Value}
  (h : KR w b v l xs) (hn : NV w (fun j => b < j ∧ some j ≠ v.ownBlock) n cs) (hl : l.length + 1 ≤ 8589934592)
  (hown : w1.ownsRow (b + 2) 25 4 (.slice (some ⟨g, 0, none⟩) (l.length + 1) c) (l.length + 1) (xs ++ cs)) (hg : w.grownBy w1 v.ownBlock) (hat : v.ownBlock = some g ∨ g = w.heap.size) :
  KR w1 b (.slice (some ⟨g, 0, none⟩) (l.length + 1) c) (l ++ [n]) (xs ++ cs) := by
 have hkeep : ∀ j, (b < j ∧ some j ≠ v.ownBlock) → j < w.heap.size → w1.heap[j]? = w.heap[j]? ∧ (b < j ∧ some j ≠ (Value.slice (some ⟨g, 0, none⟩) (l.length + 1) c).ownBlock) := by
  intro j hj hjs
  refine ⟨hg.block j hjs hj.2, hj.1, ?_⟩
  intro e
  injection e with e
  change j = g at e
  rcases hat with e2 | e2
  ·
   exact hj.2 (by rw [e2, e])
  ·
   omega
 refine ⟨by rw [List.length_append]; exact hown, NL.app l [n] xs _ (NL.keep hkeep l xs h.nl) (NL.one (NV.keep hkeep n _ hn)), by rw [List.length_append]; exact hl⟩
theorem push_one {w W W1 : World} {g wb nb g2 cap j : Nat} {vv : Value} {LL : List Int} {mk mz : Int} {mt : Str} {v : Value} {l : List Nd} {xs : List Value} {n : Nd} {cs : List Value}
  (hR : GS g wb nb w W vv LL j) (hb : Blk W nb 25 (NC mk mt mz v)) (hk : KR W nb v l xs) (hn : NV W (fun j => nb < j ∧ some j ≠ v.ownBlock) n cs) (hl : l.length + 1 ≤ 8589934592)
  (hown : W1.ownsRow (nb + 2) 25 4 (.slice (some ⟨g2, 0, none⟩) (l.length + 1) cap) (l.length + 1) (xs ++ cs)) (hgr : W.grownBy W1 v.ownBlock) (hat : v.ownBlock = some g2 ∨ g2 = W.heap.size) :
  GS g wb nb w (W1.setCell ⟨nb, 3, none⟩ (.slice (some ⟨g2, 0, none⟩) (l.length + 1) cap)) vv LL j ∧
  Blk (W1.setCell ⟨nb, 3, none⟩ (.slice (some ⟨g2, 0, none⟩) (l.length + 1) cap)) nb 25 (NC mk mt mz (.slice (some ⟨g2, 0, none⟩) (l.length + 1) cap)) ∧
  KR (W1.setCell ⟨nb, 3, none⟩ (.slice (some ⟨g2, 0, none⟩) (l.length + 1) cap)) nb (.slice (some ⟨g2, 0, none⟩) (l.length + 1) cap) (l ++ [n]) (xs ++ cs) ∧
  Blk W1 nb 25 (NC mk mt mz v) := by
 have h1 := hk.push1 hn hl hown hgr hat
 have hvb : ∀ j, some j = v.ownBlock → nb + 2 ≤ j := by
  intro j hj
  have := (hk.own.lt j hj.symm).1
  omega
 have k1 : Kp (fun k => nb + 2 ≤ k) W W1 := Kp.grown hgr (fun j _ e => hvb j e)
 have k3 := Kp.setCell (Z := fun k => k = nb) W1 ⟨nb, 3, none⟩ (.slice (some ⟨g2, 0, none⟩) (l.length + 1) cap) rfl
 have k13 : Kp (fun k => k = nb ∨ nb + 2 ≤ k) W _ := (k1.mono (fun k _ e => Or.inr e)).trans k3 (fun k _ e => Or.inl e)
 obtain ⟨q1, q2, q3, q4⟩ := hR.h
 refine ⟨hR.keep k13 (fun j e => by omega), (k1.blk hb (by omega)).put 3 _, h1.kp k3 (fun j e => by omega), k1.blk hb (by omega)⟩
theorem wpList_bs1 {ops : Array Oper} {rest : List Oper} {o : Oper} {a : Act} {w : World} {Q : Exit → Act → World → Prop} {x : Operand} {k1 : Int} {b1 : ByteArray} {z1 : Int} {A1 : Option Addr} {n1 c1 : Nat} (hgd : o.guard = none) (ho : o.op = .buildSlice 23 1 #[(0, x)]) (hx : a.eval x = .agg #[.int .i64 k1, .string b1, .int .i64 z1, .slice A1 n1 c1])
  (h : ∀ gz w', gz = w.heap.size → Blk w' gz 25 [.int .i64 k1, .string b1, .int .i64 z1, .slice A1 n1 c1] → Below w.heap.size w w' → wpList Tryd.prog ops Q rest (a.put o.dst (.slice (some ⟨gz, 0, none⟩) 1 1)) w') : wpList Tryd.prog ops Q (o :: rest) a w :=
 wpList_plain hgd fun _ hK => wp_bs (vs := #[(0, .agg #[.int .i64 k1, .string b1, .int .i64 z1, .slice A1 n1 c1])]) ho (by simp [hx]) (by cases b1 with | mk b => exact bs1 k1 b.toList z1 A1 n1 c1 w) (hK _ _ (h w.heap.size _ rfl (Blk.new w _ _) ((Below.refl _ _).alloc (Nat.le_refl _) _)))
end Go.Proofs.YtpbhgebblpdmnaaDoor
