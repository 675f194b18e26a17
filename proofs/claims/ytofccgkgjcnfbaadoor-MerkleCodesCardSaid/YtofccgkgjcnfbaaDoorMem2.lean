/-
  Slices of leaves: a part of one; an append of leaves that can be read.
  No condition but the lengths.
-/
import Derived.Test.YtofccgkgjcnfbaaDoorProve
import Derived.Lib.AppendZeros
import Derived.RegionTactic
set_option linter.unusedSimpArgs false
namespace Go.Proofs.YtofccgkgjcnfbaaDoor
open Go.RowKit Wr Sh
set_option linter.unusedVariables false
set_option maxRecDepth 100000
def ZL : Value := .agg #[.string ByteArray.empty, .string ByteArray.empty]
theorem info41 : (Tryd.prog.info? 41).map (fun i => (i.zero, i.size, i.bytes)) = some (some ZL, 2, 32) := by kernel_rfl
theorem info87 : (Tryd.prog.info? 87).map (fun i => (i.zero, i.size, i.bytes)) = some (some ZL, 2, 32) := by kernel_rfl
theorem slice33 (A : Option Addr) (n c lo hi : Nat) (h1 : lo ≤ hi) (h2 : hi ≤ n) (h3 : n ≤ c) (W : World) :
  (Instr.sliceAt 33 (.slice A n c) (some (.int .i64 (lo : Int))) (some (.int .i64 (hi : Int))) none).run Tryd.prog W = .ok (.slice (if c = lo then A else A.map (·.add (lo * 2))) (hi - lo) (c - lo)) W := by
 have hu : Tryd.prog.underlying 33 = some (.slice (Tryd.prog.elem 33)) := by kernel_rfl
 have he : Tryd.prog.elem 33 = 41 := by kernel_rfl
 have h5 : (sizeOf 41).run Tryd.prog W = .ok 2 W := by kernel_rfl
 rw [run_sliceAt_slice W 33 _ _ _ _ hu, run_slice_lh W 33 A n c hu .i64 .i64 lo hi (by omega) (by omega) (by omega), he, h5]
 simp only [Result.andThen, sliced, Int.toNat_natCast]
theorem wp_append_leaves {T e : TypeId} (hT : Tryd.prog.underlying T = some (.slice e)) (hinfo : (Tryd.prog.info? e).map (fun i => (i.zero, i.size, i.bytes)) = some (some ZL, 2, 32)) {w : World} {o : Oper} {a : Act} {K : Act → World → Prop} {Q : Exit → Act → World → Prop} (s x : Operand)
  (ho : o.op = .call { callee := .builtin .append, args := #[s, x], argTypes := #[T, T] })
  (base : Nat) (v : Value) (n : Nat) (xs : List Value) (hs : a.eval s = v) (hown : w.ownsRow base e 2 v n xs)
  (A : Option Addr) (m c B : Nat) (news : List Lf) (hx : a.eval x = .slice A m c) (hnil : A = none → c = 0) (hl : news.length = m) (hr : Rd w B A (LC news))
  (hbytes : n + m ≤ 4294967296) (hbase : base ≤ w.heap.size)
  (h : ∀ v' w', w'.ownsRow base e 2 v' (n + m) (xs ++ LC news) → w.grownBy w' v.ownBlock → K (a.put o.dst v') w') : o.wp Tryd.prog a w K Q := by
 obtain ⟨i0, hi0, hz0, hz1, hz2⟩ := info_parts hinfo
 by_cases hne : LC news = []
 ·
  have hm : m = 0 := by have := congrArg List.length hne; rw [LC_len, hl] at this; simp at this; omega
  clear hl; subst hm
  cases A with
  | none =>
   have hc := hnil rfl
   subst hc
   refine Lib.wp_append_run w s x T T ho v _ hs hx v w (run_append_owned_none w base T _ e i0 2 hT hi0 v n xs hown) (h v w ?_ (World.grownBy.refl _ _))
   rw [hne, List.append_nil, Nat.add_zero]; exact hown
  | some ad =>
   exact wp_append_own w s x T ho base e i0 ZL 2 32 hT hi0 hz0 hz1 hz2 rfl (by decide) v n xs hs hown ad 0 c (LC news) hx (by rw [hne]; rfl) (fun j u hu => by rw [hne] at hu; simp at hu) (LC_one _) (by unfold maxLen; omega) (by omega) hbase (fun v' w' h1 h2 _ => h v' w' h1 h2)
 ·
  obtain ⟨g, off, rfl, hg, hcell⟩ := hr hne
  exact wp_append_own w s x T ho base e i0 ZL 2 32 hT hi0 hz0 hz1 hz2 rfl (by decide) v n xs hs hown ⟨g, off, none⟩ m c (LC news) hx (by rw [LC_len, hl, Nat.mul_comm]) (fun j u hu => by rw [Addr.add_lit]; exact hcell j u hu) (LC_one _) (by unfold maxLen; omega) (by omega) hbase (fun v' w' h1 h2 _ => h v' w' h1 h2)
theorem wpList_append_leaves {T e : TypeId} (hT : Tryd.prog.underlying T = some (.slice e)) (hinfo : (Tryd.prog.info? e).map (fun i => (i.zero, i.size, i.bytes)) = some (some ZL, 2, 32)) {w : World} {ops : Array Oper} {rest : List Oper} {o : Oper} {a : Act} {Q : Exit → Act → World → Prop} (hgd : o.guard = none) (s x : Operand)
  (ho : o.op = .call { callee := .builtin .append, args := #[s, x], argTypes := #[T, T] })
  (base : Nat) (v : Value) (n : Nat) (xs : List Value) (hs : a.eval s = v) (hown : w.ownsRow base e 2 v n xs)
  (A : Option Addr) (m c B : Nat) (news : List Lf) (hx : a.eval x = .slice A m c) (hnil : A = none → c = 0) (hl : news.length = m) (hr : Rd w B A (LC news))
  (hbytes : n + m ≤ 4294967296) (hbase : base ≤ w.heap.size)
  (h : ∀ v' w', w'.ownsRow base e 2 v' (n + m) (xs ++ LC news) → w.grownBy w' v.ownBlock → wpList Tryd.prog ops Q rest (a.put o.dst v') w') : wpList Tryd.prog ops Q (o :: rest) a w :=
 wpList_plain hgd fun _ hK => wp_append_leaves hT hinfo s x ho base v n xs hs hown A m c B news hx hnil hl hr hbytes hbase fun v' w' h2 h3 => hK _ _ (h v' w' h2 h3)
theorem rd_part {w : World} {B : Nat} {A : Option Addr} {L : List Lf} (h : Rd w B A (LC L)) (c lo hi : Nat) (h1 : lo ≤ hi) (h2 : hi ≤ L.length) (h3 : L.length ≤ c) : Rd w B (if c = lo then A else A.map (·.add (lo * 2))) (LC (cut L lo hi)) := by
 intro hn
 have hlt : lo < hi := by
  rcases Nat.lt_or_ge lo hi with h | h
  ·
   exact h
  ·
   exfalso; apply hn
   have : cut L lo hi = [] := List.eq_nil_of_length_eq_zero (by rw [cut_len _ _ _ h2]; omega)
   rw [this]; rfl
 obtain ⟨g, o, rfl, hb, hc⟩ := h (by intro e; have := congrArg List.length e; rw [LC_len] at this; simp at this; omega)
 rw [if_neg (by omega)]
 refine ⟨g, o + lo * 2, by simp [Addr.add_lit], hb, fun j u hu => ?_⟩
 rw [Nat.add_assoc]
 refine hc _ u ?_
 have hj := (List.getElem?_eq_some_iff.1 hu).1
 rw [LC_len, cut_len _ _ _ h2] at hj
 have e1 := LC_at (cut L lo hi) (j / 2) (by rw [cut_len _ _ _ h2]; omega)
 have e2 := LC_at L (lo + j / 2) (by omega)
 have e3 : (cut L lo hi)[j / 2]'(by rw [cut_len _ _ _ h2]; omega) = L[lo + j / 2] := by
  have := cut_get L lo hi (j / 2) (by omega)
  rw [List.getElem?_eq_getElem (by rw [cut_len _ _ _ h2]; omega), List.getElem?_eq_getElem (by omega)] at this
  exact Option.some.inj this
 rw [e3] at e1
 rcases Nat.mod_two_eq_zero_or_one j with h0 | h0
 ·
  rw [show lo * 2 + j = (lo + j / 2) * 2 by omega, e2.1, ← e1.1, ← hu]; congr 1; omega
 ·
  rw [show lo * 2 + j = (lo + j / 2) * 2 + 1 by omega, e2.2, ← e1.2, ← hu]; congr 1; omega
end Go.Proofs.YtofccgkgjcnfbaaDoor
