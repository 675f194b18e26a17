/-
  Texts of the proof, joined: Mem, Lb, La, Bt, At, Tt.
  No condition: lemmas.
-/
import Derived.BigQuiet
import Derived.Deep.AppendLies
import Derived.Deep.Draws
import Derived.Deep.QuietTactic
import Derived.Laws.BitsAllLaws
import Derived.Laws.CopyRow
import Derived.Lib.Hide
import Derived.Outline
import Derived.Shelf.Small.Bits
import Derived.ShutString
import Derived.Test.YtbfhilbagojdnaaGreatProg
import Derived.WalkKit
import Derived.WalkLawsBesides
import Derived.WalkSpells
import Derived.Test.YtbfhilbagojdnaaGreatHr0
namespace Go.Proofs.YtbfhilbagojdnaaGreat
open Go.RowKit
set_option linter.unusedVariables false
namespace Wr

/-- The cells of bytes. -/
def B8 (l : List UInt8) : List Value := l.map fun c => .int .u8 (c.toNat : Int)
theorem B8_len (l : List UInt8) : (B8 l).length = l.length := by simp [B8]
theorem B8_one (l : List UInt8) : ∀ u ∈ B8 l, u.oneCell' = true := by
  intro u hu
  obtain ⟨_, _, rfl⟩ := List.mem_map.1 hu
  rfl
theorem B8_get (l : List UInt8) (j : Nat) (h : j < l.length) : (B8 l)[j]? = some (.int .u8 (l[j].toNat : Int)) := by
  simp [B8, h]
theorem B8_append (a b : List UInt8) : B8 (a ++ b) = B8 a ++ B8 b := by simp [B8]

/-- Block g is just the cells cs, none of them frozen. -/
def Blk (w : World) (g : Nat) (t : TypeId) (cs : List Value) : Prop := w.heap[g]? = some (.cells cs.toArray t (0, 0))

section
variable {w w' : World} {g : Nat} {t : TypeId} {cs : List Value}
theorem Blk.lt (h : Blk w g t cs) : g < w.heap.size := by
  rcases Nat.lt_or_ge g w.heap.size with hlt | hge
  · exact hlt
  · unfold Blk at h; rw [Array.getElem?_eq_none hge] at h; cases h
theorem Blk.cell (h : Blk w g t cs) (i : Nat) : w.cell? ⟨g, i, none⟩ = cs[i]? := by
  rw [cell_of_row w g i cs.toArray t (0, 0) h]; simp
theorem Blk.frozen (h : Blk w g t cs) (i : Nat) : w.frozen? ⟨g, i, none⟩ = false := by
  unfold Blk at h
  simp [World.frozen?, h]
theorem Blk.new (w : World) (t : TypeId) (cs : List Value) : Blk (w.alloc (.cells cs.toArray t)) w.heap.size t cs := heap_alloc_new w _
theorem Blk.newAt (w : World) (n : Nat) (t : TypeId) (cs : List Value) (h : w.heap.size = n) : Blk (w.alloc (.cells cs.toArray t)) n t cs := by subst h; exact Blk.new w t cs
theorem Blk.drew (h : Blk w g t cs) : Blk w.drew g t cs := h
theorem Blk.drewN (h : Blk w g t cs) (n : Nat) : Blk (w.drewN n) g t cs := h
theorem Blk.alloc (h : Blk w g t cs) (o : Obj) : Blk (w.alloc o) g t cs := (Below.heap_alloc w o g h.lt).trans h
theorem Blk.put (h : Blk w g t cs) (i : Nat) (u : Value) : Blk (w.setCell ⟨g, i, none⟩ u) g t (cs.set i u) := by
  unfold Blk at h ⊢
  simp [World.setCell, Array.getElem?_modify, h]
theorem Blk.far (h : Blk w g t cs) {p : Addr} (hp : g ≠ p.block) (u : Value) : Blk (w.setCell p u) g t cs := (Below.heap_setCell w p u g hp).trans h
theorem Blk.below {B : Nat} (h : Blk w g t cs) (hb : Below B w w') (hg : g < B) : Blk w' g t cs := (hb.block g hg).trans h
theorem Blk.grown {row : Option Nat} (h : Blk w g t cs) (hb : w.grownBy w' row) (hg : some g ≠ row) : Blk w' g t cs := (hb.block g h.lt hg).trans h
end

/-- The slice with the address A holds the cells xs, below block B. -/
def Rd (w : World) (B : Nat) (A : Option Addr) (xs : List Value) : Prop :=
  xs ≠ [] → ∃ g o, A = some ⟨g, o, none⟩ ∧ g < B ∧ ∀ (j : Nat) u, xs[j]? = some u → w.cell? ⟨g, o + j, none⟩ = some u
section
variable {w w' : World} {B B' : Nat} {A : Option Addr} {xs : List Value}
theorem Rd.nil : Rd w B A [] := fun h => absurd rfl h
theorem Rd.keep (h : Rd w B A xs) (hk : ∀ p : Addr, p.block < B → w'.cell? p = w.cell? p) : Rd w' B A xs := fun hn => by
  obtain ⟨g, o, e, hb, hc⟩ := h hn
  exact ⟨g, o, e, hb, fun j u hu => (hk ⟨g, o + j, none⟩ hb).trans (hc j u hu)⟩
theorem Rd.more (h : Rd w B A xs) (hB : B ≤ B') : Rd w B' A xs := fun hn => by
  obtain ⟨g, o, e, hb, hc⟩ := h hn
  exact ⟨g, o, e, Nat.lt_of_lt_of_le hb hB, hc⟩
theorem Rd.below (h : Rd w B A xs) (hb : Below B w w') : Rd w' B A xs := h.keep fun _ hp => hb.cell hp
theorem Rd.cut (h : Rd w B A xs) (k cap : Nat) (hk : k ≤ xs.length) (hc : xs.length ≤ cap) : Rd w B (if cap = k then A else A.map (·.add k)) (xs.drop k) := by
  intro hn
  have hl : k < xs.length := by
    rcases Nat.lt_or_ge k xs.length with h | h
    · exact h
    · exact absurd (List.drop_eq_nil_of_le h) hn
  obtain ⟨g, o, rfl, hb, hcell⟩ := h (by intro e; subst e; simp at hl)
  rw [if_neg (by omega)]
  refine ⟨g, o + k, by simp [Addr.add_lit], hb, fun j u hu => ?_⟩
  rw [Nat.add_assoc]
  exact hcell _ u (by rw [← hu, List.getElem?_drop])
theorem Rd.take (h : Rd w B A xs) (k : Nat) : Rd w B A (xs.take k) := by
  intro hn
  obtain ⟨g, o, rfl, hb, hcell⟩ := h (by rintro rfl; simp at hn)
  refine ⟨g, o, rfl, hb, fun j u hu => hcell j u ?_⟩
  rw [List.getElem?_take] at hu
  split at hu
  · exact hu
  · cases hu
theorem Rd.of_own {base e c n size : Nat} (h : w.ownsRow base e size (.slice A n c) n xs) : Rd w w.heap.size A xs := by
  intro hn
  have hn0 : 0 < n := by
    rcases Nat.eq_zero_or_pos n with h0 | h0
    · subst h0; exact absurd (List.eq_nil_of_length_eq_zero (by simpa using h.1)) hn
    · exact h0
  obtain ⟨g, cap, hv, _, hlt⟩ := h.form hn0
  have hA : A = some ⟨g, 0, none⟩ := by injection hv
  subst hA
  refine ⟨g, 0, rfl, hlt, fun j u hu => ?_⟩
  have := h.cells (g := g) rfl j u hu
  rwa [Addr.add_lit] at this
end

theorem heap_setRow (w : World) (g : Nat) (cs old : Array Value) (t : TypeId) (h : w.heap[g]? = some (.cells old t (0, 0))) : (w.setRow g cs).heap[g]? = some (.cells cs t (0, 0)) := by
  simp [World.setRow, Array.getElem?_modify, h]
theorem heap_setRow_other (w : World) (g k : Nat) (cs : Array Value) (h : k ≠ g) : (w.setRow g cs).heap[k]? = w.heap[k]? := by
  simp [World.setRow, Array.getElem?_modify]
  intro e; exact absurd e.symm h
theorem belowRow {B : Nat} {a w : World} (h : Below B a w) {g : Nat} (hg : B ≤ g) (cs : Array Value) : Below B a (w.setRow g cs) :=
  h.trans ⟨rfl, rfl, rfl, by simp, fun k hk => heap_setRow_other _ _ _ _ (by omega)⟩
theorem Blk.setRow {w : World} {g g' : Nat} {t : TypeId} {cs : List Value} (h : Blk w g t cs) (hg : g ≠ g') (c : Array Value) : Blk (w.setRow g' c) g t cs := (heap_setRow_other w g' g c hg).trans h
theorem Blk.row {w : World} {g : Nat} {t : TypeId} {cs : List Value} (h : Blk w g t cs) (c : List Value) : Blk (w.setRow g c.toArray) g t c := heap_setRow w g c.toArray _ t h
section
variable {P : Program}
/-- A whole array, or struct, loaded from wherever its cells lie. -/
theorem run_loadVar_at (w : World) (ad : Addr) (ty : TypeId) (cs : List Value) (d : TypeDesc) (hc : ∀ j v, cs[j]? = some v → w.cell? (ad.add j) = some v)
    (hu : P.underlying ty = some d) (hd : (match d with | .struct _ | .array _ _ => true | _ => false) = true) (hi : (P.info? ty).map (·.size) = some cs.length) :
    (loadVar ty ad).run P w = .ok (.agg cs.toArray) w := by
  have hl := run_loadCells_list (P := P) w ad cs hc
  cases hq : P.info? ty with
  | none => simp [hq] at hi
  | some i =>
    have hs : i.size = cs.length := by simpa [hq] using hi
    have hagg : (isAgg ty).run P w = .ok true w := by
      unfold isAgg
      rw [Sem.run_bind, run_underlying hu w]
      cases d <;> simp_all
    simp [loadVar, Sem.run_bind, hagg, sizeOf, typeInfo, hq, hs, hl]
theorem wp_load_at {o : Oper} {a : Act} {w : World} {K : Act → World → Prop} {Q : Exit → Act → World → Prop} (ty : TypeId) (x : Operand) (ho : o.op = .load ty x)
    (ad : Addr) (hx : a.eval x = .pointer (some ad)) (cs : List Value) (d : TypeDesc) (hc : ∀ j v, cs[j]? = some v → w.cell? (ad.add j) = some v)
    (hu : P.underlying ty = some d) (hd : (match d with | .struct _ | .array _ _ => true | _ => false) = true) (hi : (P.info? ty).map (·.size) = some cs.length)
    (h : K (a.put o.dst (.agg cs.toArray)) w) : o.wp P a w K Q := by
  unfold Oper.wp execOp
  simp only [ho, hx, Instr.loadAt, Instr.sureAddr, Sem.run_bind, Sem.run_pure, Result.andThen_ok, run_loadVar_at w ad ty cs d hc hu hd hi]
  exact h
theorem wpList_load_at {ops : Array Oper} {rest : List Oper} {o : Oper} {a : Act} {w : World} {Q : Exit → Act → World → Prop} (hgd : o.guard = none) (ty : TypeId) (x : Operand) (ho : o.op = .load ty x)
    (ad : Addr) (hx : a.eval x = .pointer (some ad)) (cs : List Value) (d : TypeDesc) (hc : ∀ j v, cs[j]? = some v → w.cell? (ad.add j) = some v)
    (hu : P.underlying ty = some d) (hd : (match d with | .struct _ | .array _ _ => true | _ => false) = true) (hi : (P.info? ty).map (·.size) = some cs.length)
    (h : wpList P ops Q rest (a.put o.dst (.agg cs.toArray)) w) : wpList P ops Q (o :: rest) a w :=
  wpList_plain hgd fun _ hK => wp_load_at ty x ho ad hx cs d hc hu hd hi (hK _ _ h)
end

theorem own_below {w w' : World} {base e size n : Nat} {v : Value} {xs : List Value} (h : w.ownsRow base e size v n xs) (hb : Below w.heap.size w w') : w'.ownsRow base e size v n xs :=
  h.kept (row := none) ⟨hb.os, hb.tape, hb.output, hb.size, fun i hi _ => hb.block i hi⟩ (by cases hv : v.ownBlock <;> simp)
theorem below_drewN {B : Nat} {a w : World} (h : Below B a w) (n : Nat) : Below B a (w.drewN n) := ⟨h.os, h.tape, h.output, h.size, h.block⟩
theorem Blk.at {w : World} {g : Nat} {t : TypeId} {cs : List Value} (h : Blk w g t cs) : ∀ j v, cs[j]? = some v → w.cell? ((⟨g, 0, none⟩ : Addr).add j) = some v := by
  intro j v hv
  rw [Addr.add_lit, Nat.zero_add, h.cell, hv]
end Wr
end Go.Proofs.YtbfhilbagojdnaaGreat
namespace Go.Proofs.YtbfhilbagojdnaaGreat
open Go.RowKit Wr Go.Proofs.YtbfhilbagojdnaaGreat.Nm
set_option linter.unusedVariables false
namespace Wr
/-- The cells of limbs. -/
def Lc (l : List Nat) : List Value := l.map fun (x : Nat) => Value.int .u32 (x : Int)
theorem Lc_len (l : List Nat) : (Lc l).length = l.length := by simp [Lc]
theorem Lc_one (l : List Nat) : ∀ u ∈ Lc l, u.oneCell' = true := by
  intro u hu
  obtain ⟨_, _, rfl⟩ := List.mem_map.1 hu
  rfl
theorem Lc_get (l : List Nat) (j : Nat) (h : j < l.length) : (Lc l)[j]? = some (.int .u32 (l[j] : Int)) := by simp [Lc, h]
theorem Lc_append (a b : List Nat) : Lc (a ++ b) = Lc a ++ Lc b := by simp [Lc]
theorem Lc_rep (k : Nat) : List.replicate k (Value.int .u32 0) = Lc (List.replicate k 0) := by simp [Lc]
theorem Lc_set (l : List Nat) (i x : Nat) : (Lc l).set i (.int .u32 (x : Int)) = Lc (l.set i x) := by simp [Lc, List.map_set]
theorem Lc_take (l : List Nat) (i : Nat) : (Lc l).take i = Lc (l.take i) := by simp [Lc, List.map_take]
theorem Lc_drop (l : List Nat) (i : Nat) : (Lc l).drop i = Lc (l.drop i) := by simp [Lc, List.map_drop]
theorem Lc_nil : Lc [] = [] := rfl
theorem Lc_ne {l : List Nat} (h : 0 < l.length) : Lc l ≠ [] := by
  intro e; have h2 := Lc_len l; rw [e, List.length_nil] at h2; omega

/-- A slice value that reads as a list of limbs, below the heap's end. -/
def Sl (w : World) (v : Value) (l : List Nat) : Prop := ∃ (A : Option Addr) (c : Nat), v = .slice A l.length c ∧ l.length ≤ c ∧ (A = none → c = 0) ∧ Rd w w.heap.size A (Lc l)
theorem Sl.below {w w' : World} {v : Value} {l : List Nat} (h : Sl w v l) (hb : Below w.heap.size w w') : Sl w' v l := by
  obtain ⟨A, c, e, hc, hn, hr⟩ := h
  exact ⟨A, c, e, hc, hn, (hr.below hb).more hb.size⟩
theorem Sl.drewN {w : World} {v : Value} {l : List Nat} (h : Sl w v l) (q : Nat) : Sl (w.drewN q) v l := h
theorem Sl.nil (w : World) : Sl w (.slice none 0 0) [] := ⟨none, 0, rfl, Nat.zero_le _, fun _ => rfl, Rd.nil⟩
/-- The cells at a place of a block. -/
theorem Rd.of_blk {w : World} {g : Nat} {t : TypeId} {cs : List Value} (h : Blk w g t cs) (o : Nat) (xs : List Value) (hx : ∀ j u, xs[j]? = some u → cs[o + j]? = some u) : Rd w (g + 1) (some ⟨g, o, none⟩) xs :=
  fun _ => ⟨g, o, rfl, Nat.lt_succ_self g, fun j u hu => by rw [h.cell]; exact hx j u hu⟩
theorem Rd.of_blk0 {w : World} {g : Nat} {t : TypeId} {cs : List Value} (h : Blk w g t cs) : Rd w (g + 1) (some ⟨g, 0, none⟩) cs := Rd.of_blk h 0 cs (by intro j u hu; rw [Nat.zero_add]; exact hu)
theorem Rd.cells {w : World} {B : Nat} {A : Option Addr} {xs : List Value} (h : Rd w B A xs) (h0 : 0 < xs.length) : ∃ g o, A = some ⟨g, o, none⟩ ∧ g < B ∧ ∀ (j : Nat) u, xs[j]? = some u → w.cell? ⟨g, o + j, none⟩ = some u := h (by intro e; subst e; simp at h0)
theorem dropz_take : ∀ l : List Nat, dropz l = l.take (dropz l).length
  | [] => rfl
  | a :: l => by
    have ih := dropz_take l
    rw [dropz]
    by_cases h : a = 0 ∧ dropz l = []
    · rw [if_pos h]; simp
    · rw [if_neg h, List.length_cons, List.take_succ_cons, ← ih]
end Wr
end Go.Proofs.YtbfhilbagojdnaaGreat
namespace Go.Proofs.YtbfhilbagojdnaaGreat
open Go.RowKit Wr Go.Proofs.YtbfhilbagojdnaaGreat.Nm
set_option linter.unusedVariables false
set_option maxRecDepth 100000

/-- The cell of limb i. -/
theorem limb_cell {w : World} {B : Nat} {A : Option Addr} {l : List Nat} (hr : Rd w B A (Lc l)) (i : Nat) (h : i < l.length) : ∃ g o, A = some ⟨g, o, none⟩ ∧ g < B ∧ w.cell? ⟨g, o + i, none⟩ = some (.int .u32 ((l[i] : Nat) : Int)) := by
  obtain ⟨g, o, e, hg, hc⟩ := hr (Lc_ne (by omega))
  exact ⟨g, o, e, hg, hc i _ (Lc_get l i h)⟩

set_option maxHeartbeats 400000 in
theorem limb_any (A : Option Addr) (c : Nat) (l : List Nat) (i B : Nat) (w : World) (hr : Rd w B A (Lc l)) (hl : l.length ≤ 1099511627776) (hi : i ≤ 1099511627776) :
    Calls Tryz.prog 114 #[.slice A l.length c, .int .i64 (i : Int)] w fun e w' => e = .returned (.int .u32 (at0 l i : Nat)) ∧ w = w' := by
  by_cases hlt : i < l.length
  · obtain ⟨g, o, rfl, hg, hc⟩ := limb_cell hr i hlt
    rw [at0_in l i hlt]
    generalize l[i] = x at hc
    generalize l.length = n at hl hlt
    have i0 : (i : Int) < (n : Int) := by omega
    clear hr
    go_enter Tryz.func114, Tryz.ntmps114
    go_wp2
    go_ret
    exact ⟨rfl, rfl⟩
  · rw [at0_out l i (by omega)]
    generalize l.length = n at hl hlt
    have i0 : ¬ (i : Int) < (n : Int) := by omega
    clear hr
    go_enter Tryz.func114, Tryz.ntmps114
    go_wp2
    go_ret
    exact ⟨rfl, rfl⟩

set_option maxHeartbeats 400000 in
theorem order_any (b : Bool) (w : World) : Calls Tryz.prog 95 #[.bool b] w fun e w' => e = .returned (.int .i64 (if b then -1 else 1)) ∧ w = w' := by
  cases b
  all_goals
    go_enter Tryz.func95, Tryz.ntmps95
    go_wp2
    go_ret
    exact ⟨rfl, rfl⟩

theorem order_t (w : World) : Calls Tryz.prog 95 #[.bool true] w fun e w' => e = .returned (.int .i64 (-1)) ∧ w = w' := order_any true w
theorem order_f (w : World) : Calls Tryz.prog 95 #[.bool false] w fun e w' => e = .returned (.int .i64 1) ∧ w = w' := order_any false w
/-- A quiet call of a function that leaves the world as it was. -/
theorem quiet_eq {P : Program} {f : FuncId} {args : Array Value} {w : World} {n : Nat} {v : Value}
    (h : Calls P f args (w.drewN n) fun e w' => e = .returned v ∧ w.drewN n = w') : Calls P f args (w.drewN n) fun e w'' => e = .returned v ∧ ∃ m, w'' = w.drewN m :=
  h.mono fun _ _ ⟨he, hm⟩ => ⟨he, n, hm.symm⟩
set_option maxHeartbeats 400000 in
theorem isOne_any (A : Option Addr) (c : Nat) (l : List Nat) (B : Nat) (w : World) (hr : Rd w B A (Lc l)) (hl : l.length ≤ 1099511627776) :
    Calls Tryz.prog 102 #[.slice A l.length c] w fun e w' => e = .returned (.bool (decide (l = [1]))) ∧ w = w' := by
  by_cases h1 : l.length = 1
  · obtain ⟨x, rfl⟩ := List.length_eq_one_iff.1 h1
    obtain ⟨g, o, rfl, hg, hc⟩ := limb_cell hr 0 (by simp)
    simp only [List.getElem_cons_zero, Nat.add_zero] at hc
    have e : decide ([x] = [1]) = ((x : Int) == 1) := by
      rw [Bool.eq_iff_iff]; simp; omega
    rw [e]
    clear hr e h1 hl
    go_enter Tryz.func102, Tryz.ntmps102
    go_wp2
    go_ret
    exact ⟨rfl, rfl⟩
  · have e : decide (l = [1]) = false := by
      apply decide_eq_false; intro e; rw [e] at h1; exact h1 rfl
    rw [e]
    have hn : ((l.length : Int) == 1) = false := by rw [beq_eq_false_iff_ne]; omega
    generalize l.length = n at hl hn
    clear hr e h1
    go_enter Tryz.func102, Tryz.ntmps102
    go_wp2
    go_ret
    exact ⟨rfl, rfl⟩

set_option maxHeartbeats 400000 in
theorem isProper_any (A : Option Addr) (c : Nat) (l : List Nat) (B : Nat) (w : World) (hr : Rd w B A (Lc l)) (hl : l.length ≤ 1099511627776) :
    Calls Tryz.prog 107 #[.slice A l.length c] w fun e w' => e = .returned (.bool (decide (dropz l = l))) ∧ w = w' := by
  by_cases h1 : l.length = 0
  · obtain rfl := List.length_eq_zero_iff.1 h1
    clear hr h1 hl
    go_enter Tryz.func107, Tryz.ntmps107
    go_wp2
    go_ret
    exact ⟨rfl, rfl⟩
  · obtain ⟨k, hk⟩ : ∃ k, l.length = k + 1 := ⟨l.length - 1, by omega⟩
    obtain ⟨g, o, rfl, hg, hc⟩ := limb_cell hr k (by omega)
    have e : decide (dropz l = l) = (((l[k]'(by omega) : Nat) : Int) != 0) := by
      have := prp_last l k hk
      unfold Prp at this
      rw [Bool.eq_iff_iff]
      simp only [decide_eq_true_eq, this, bne_iff_ne]
      omega
    rw [e]
    clear e
    have hn : (((k : Int) + 1) == 0) = false := by rw [beq_eq_false_iff_ne]; omega
    generalize l[k]'(by omega) = x at hc
    rw [hk] at hl ⊢
    clear hr h1 hk
    go_enter Tryz.func107, Tryz.ntmps107
    go_wp2
    go_ret
    exact ⟨rfl, rfl⟩

set_option maxHeartbeats 400000 in
theorem proper_any (A : Option Addr) (c : Nat) (l : List Nat) (B : Nat) (w : World) (hr : Rd w B A (Lc l)) (hl : l.length ≤ 1099511627776) (hc : l.length ≤ c) :
    Calls Tryz.prog 97 #[.slice A l.length c] w fun e w' => e = .returned (.slice A (dropz l).length (dropz l).length) ∧ w = w' := by
  obtain ⟨N, hN⟩ : ∃ N, N = l.length := ⟨_, rfl⟩
  rw [← hN] at hl hc ⊢
  have HN := Lib.hid hN
  obtain ⟨M, hM⟩ : ∃ M, M = (dropz l).length := ⟨_, rfl⟩
  rw [← hM]
  have HM := Lib.hid hM
  clear hN hM
  go_enter Tryz.func97, Tryz.ntmps97
  go_wp2
  go_loop [3] (fun s3 => ∃ k : Nat, k ≤ N ∧ s3 = .int .i64 k ∧ dropz (l.take k) = dropz l) (fun s3 => (intOf s3).toNat)
  case atStart => exact ⟨N, Nat.le_refl _, rfl, by rw [List.take_of_length_le (by rw [HN.out]; exact Nat.le_refl _)]⟩
  case round =>
    obtain ⟨k, hk, rfl, hd⟩ := hrel
    have HD := Lib.hid hd
    clear hd
    rcases Nat.eq_zero_or_pos k with h0 | h0
    · subst h0
      have e : M = 0 := by rw [HM.out, ← HD.out]; simp [dropz]
      subst e
      go_wp2
      go_ret
      exact ⟨rfl, rfl⟩
    · obtain ⟨j, rfl⟩ : ∃ j, k = j + 1 := ⟨k - 1, by omega⟩
      have hj : j < l.length := by have := HN.out; omega
      obtain ⟨g, o, rfl, hg, hcell⟩ := limb_cell hr j hj
      have hz : ((j : Int) + 1) > 0 := by omega
      have hz1 : ((j + 1 : Nat) : Int) - 1 = (j : Int) := by omega
      have hjN : (j : Int) < (N : Int) := by omega
      by_cases hx : l[j] = 0
      · have e : dropz (l.take j) = dropz l := by rw [← HD.out, dropz_step l j hj hx]
        have E := Lib.hid e
        rw [hx] at hcell
        clear e hx
        go_wp2
        go_round
        case rel => exact ⟨j, by omega, by go_num, E.out⟩
        case measure => simp only [intOf]; omega
      · have e : M = j + 1 := by rw [HM.out, ← HD.out, dropz_stop l j hj hx, List.length_take]; try omega
        subst e
        have hne : (((l[j] : Nat) : Int) == 0) = false := by rw [beq_eq_false_iff_ne]; omega
        generalize l[j] = x at hcell hne
        clear hx
        go_wp2
        go_ret
        exact ⟨rfl, rfl⟩
end Go.Proofs.YtbfhilbagojdnaaGreat
namespace Go.Proofs.YtbfhilbagojdnaaGreat
open Go.RowKit Wr Go.Proofs.YtbfhilbagojdnaaGreat.Nm
set_option linter.unusedVariables false
set_option maxRecDepth 100000

def renB : Go.Shelf.Ren := ⟨fun | 125 => 65 | 128 => 112 | 129 => 113 | 133 => 110 | 134 => 136 | n => n, fun | 46 => 73 | 51 => 66 | 53 => 74 | n => n, fun n => n⟩
theorem lays128 : Lays.n128 Tryz.prog renB := by
  constructor
  all_goals (intros; kernel_rfl)
theorem lays125 : Lays.n125 Tryz.prog renB := by
  constructor
  all_goals (intros; kernel_rfl)
theorem lays133 : Lays.n133 Tryz.prog renB := by
  constructor
  all_goals (intros; kernel_rfl)
theorem bitLenAux_log (f : Nat) : ∀ x, 0 < x → x < 2 ^ f → Lib.bitLenAux f x = Nat.log2 x + 1 := by
  induction f with
  | zero => intro x h0 h1; simp at h1; omega
  | succ f ih =>
    intro x h0 h1
    unfold Lib.bitLenAux
    rw [if_neg (by omega)]
    by_cases h : x / 2 = 0
    · rw [h]
      have : x = 1 := by omega
      subst this
      have : Lib.bitLenAux f 0 = 0 := by cases f <;> simp [Lib.bitLenAux]
      rw [this]; decide
    · rw [ih (x / 2) (by omega) (by rw [Nat.pow_succ] at h1; omega), Nat.log2_def x, if_pos (by omega)]
      omega
theorem bitLen_blen (x : Nat) (h1 : x < 18446744073709551616) : Lib.bitLen x = blen x := by
  unfold blen
  by_cases h : x = 0
  · subst h; rfl
  · rw [if_neg h]; exact bitLenAux_log 64 x (by omega) h1
theorem len32_any (x : Nat) (w : World) (h : x < 4294967296) : Calls Tryz.prog 112 #[.int .u32 ((x : Nat) : Int)] w fun e w' => e = .returned (.int .i64 (blen x : Nat)) ∧ w = w' :=
  (Any.bits_Len32 lays128 (x : Int) w (by omega) (by omega)).mono fun e w' ⟨h1, h2⟩ => ⟨by rw [h1, Int.toNat_natCast, bitLen_blen x (by omega)], h2.symm⟩
theorem len_any (x : Nat) (w : World) (h : x < 18446744073709551616) : Calls Tryz.prog 65 #[.int .u64 ((x : Nat) : Int)] w fun e w' => e = .returned (.int .i64 (blen x : Nat)) ∧ w = w' :=
  (Any.bits_Len lays125 (x : Int) w (by omega) (by omega)).mono fun e w' ⟨h1, h2⟩ => ⟨by rw [h1, Int.toNat_natCast, bitLen_blen x (by omega)], h2.symm⟩
theorem lz32_any (x : Nat) (w : World) (h : x < 4294967296) : Calls Tryz.prog 110 #[.int .u32 ((x : Nat) : Int)] w fun e w' => e = .returned (.int .i64 ((32 - blen x : Nat) : Int)) ∧ w = w' :=
  (Any.bits_LeadingZeros32 lays133 (x : Int) w (by omega) (by omega)).mono fun e w' ⟨h1, h2⟩ => ⟨by
    have hb : blen x ≤ 32 := blen_le.2 h
    rw [h1, Int.toNat_natCast, bitLen_blen x (by omega), Int.ofNat_sub hb]; rfl, h2.symm⟩

set_option maxHeartbeats 400000 in
theorem add32_any (x y : Nat) (w : World) (hx : x < 4294967296) (hy : y < 4294967296) :
    Calls Tryz.prog 131 #[.int .u32 ((x : Nat) : Int), .int .u32 ((y : Nat) : Int), .int .u32 0] w fun e w' => e = .returned (.tuple #[.int .u32 (((x + y) % 4294967296 : Nat) : Int), .int .u32 (((x + y) / 4294967296 : Nat) : Int)]) ∧ w = w' := by
  have e1 : (((x + y) % 4294967296 : Nat) : Int) = ((x : Int) + (y : Int)) % 4294967296 := by omega
  have e2 : (((x + y) / 4294967296 : Nat) : Int) = ((x : Int) + (y : Int)) / 4294967296 := by omega
  rw [e1, e2]
  clear e1 e2
  go_enter Tryz.func131, Tryz.ntmps131
  go_wp2
  go_ret2
  exact ⟨rfl, rfl⟩
theorem or_u64 (a b : Nat) (ha : a < 4294967296) (hb : b < 4294967296) : bits BinOp.or IntKind.u64 ((a : Int) * 4294967296) (b : Int) = ((a * 4294967296 + b : Nat) : Int) := by
  have h := or_add b a 32 (by exact hb)
  rw [show ((a : Int) * 4294967296) = ((a * 4294967296 : Nat) : Int) by simp, u64_or_nat _ _ (by omega) (by omega), Nat.or_comm]
  have e : (2 : Nat) ^ 32 = 4294967296 := by decide
  rw [e] at h
  rw [h, Nat.add_comm]
set_option maxHeartbeats 400000 in
theorem div32_any (a b y : Nat) (w : World) (ha : a < y) (hb : b < 4294967296) (hy : y < 4294967296) :
    Calls Tryz.prog 128 #[.int .u32 ((a : Nat) : Int), .int .u32 ((b : Nat) : Int), .int .u32 ((y : Nat) : Int)] w fun e w' => e = .returned (.tuple #[.int .u32 (((a * 4294967296 + b) / y : Nat) : Int), .int .u32 (((a * 4294967296 + b) % y : Nat) : Int)]) ∧ ∃ q, w' = w.drewN q := by
  obtain ⟨t, ht⟩ : ∃ t, t = a * 4294967296 + b := ⟨_, rfl⟩
  have hor := or_u64 a b (by omega) hb
  rw [← ht] at hor ⊢
  obtain ⟨q, hq⟩ : ∃ q, q = t / y := ⟨_, rfl⟩
  obtain ⟨r, hr⟩ : ∃ r, r = t % y := ⟨_, rfl⟩
  rw [← hq, ← hr]
  have hq0 : q < 4294967296 := by
    rw [hq, Nat.div_lt_iff_lt_mul (by omega)]
    have : (a + 1) * 4294967296 ≤ y * 4294967296 := Nat.mul_le_mul_right _ ha
    rw [Nat.mul_comm 4294967296]; omega
  have hr0 : r < 4294967296 := by have := Nat.mod_lt t (show 0 < y by omega); omega
  have ht64 : t < 18446744073709551616 := by omega
  have HQ := Lib.hid (show ((t : Int) / (y : Int)) = (q : Int) by rw [hq]; rfl)
  have HR := Lib.hid (show ((t : Int) % (y : Int)) = (r : Int) by rw [hr]; rfl)
  have n0 : ((y : Int) != 0) = true := by rw [bne_iff_ne]; omega
  have n1 : ¬ (y : Int) ≤ (a : Int) := by omega
  have hz : ((y : Int) == 0) = false := by rw [beq_eq_false_iff_ne]; omega
  clear ht hq hr
  go_enter Tryz.func128, Tryz.ntmps128
  go_wp2
  refine wp_region_any (by kernel_rfl) ?_
  change wpAny _ _ _ _ _ _ _ (World.drew w)
  refine wpAny_take (i := 0) (oi := { dst := some 23, op := Op.move (Operand.tmp 8), type := 74, pos := "bits.go:510", after := #[], guard := none }) (v := .int .u64 ((t : Nat) : Int)) rfl (by kernel_rfl) (by kernel_rfl) (by kernel_rfl) (fun _ _ _ h => h) (Or.inl ⟨by rfl, fun W => ?z0⟩) ?_
  case z0 => go_simp
  try dsimp only [Act.put]
  try simp only [List.setIfInBounds_toArray, List.set_cons_zero, List.set_cons_succ]
  refine wpAny_take (i := 1) (oi := { dst := some 24, op := Op.move (Operand.tmp 2), type := 66, pos := "bits.go:510", after := #[], guard := none }) (v := .int .u32 ((y : Nat) : Int)) rfl (by kernel_rfl) (by kernel_rfl) (by kernel_rfl) (fun _ _ _ h => h) (Or.inl ⟨by rfl, fun W => ?z1⟩) ?_
  case z1 => go_simp
  try dsimp only [Act.put]
  try simp only [List.setIfInBounds_toArray, List.set_cons_zero, List.set_cons_succ]
  refine wpAny_take (i := 2) (oi := { dst := some 25, op := Op.convert 66 74 (Operand.tmp 24), type := 74, pos := "bits.go:510", after := #[{ on := 1, ground := Ground.data }], guard := none }) (v := .int .u64 ((y : Nat) : Int)) rfl (by kernel_rfl) (by kernel_rfl) (by kernel_rfl) (fun _ _ _ h => h) (Or.inl ⟨by rfl, fun W => ?z2⟩) ?_
  case z2 => (go_simp; exact IntWalk.u64_in _ (by omega))
  try dsimp only [Act.put]
  try simp only [List.setIfInBounds_toArray, List.set_cons_zero, List.set_cons_succ]
  refine wpAny_take (i := 3) (oi := { dst := some 26, op := Op.binOp BinOp.quo 74 (Operand.tmp 23) (Operand.tmp 25) 74, type := 74, pos := "bits.go:510", after := #[{ on := 0, ground := Ground.data }, { on := 2, ground := Ground.data }], guard := none }) (v := .int .u64 ((q : Nat) : Int)) rfl (by kernel_rfl) (by kernel_rfl) (by kernel_rfl) (fun _ _ _ h => h) (Or.inl ⟨by rfl, fun W => ?z3⟩) ?_
  case z3 => (go_simp; rw [if_neg (by omega), HQ.out, IntWalk.u64_in _ (by omega)])
  try dsimp only [Act.put]
  try simp only [List.setIfInBounds_toArray, List.set_cons_zero, List.set_cons_succ]
  refine wpAny_take (i := 4) (oi := { dst := some 27, op := Op.convert 74 66 (Operand.tmp 26), type := 66, pos := "bits.go:510", after := #[{ on := 3, ground := Ground.data }], guard := none }) (v := .int .u32 ((q : Nat) : Int)) rfl (by kernel_rfl) (by kernel_rfl) (by kernel_rfl) (fun _ _ _ h => h) (Or.inl ⟨by rfl, fun W => ?z4⟩) ?_
  case z4 => (go_simp; exact IntWalk.u32_in _ (by omega))
  try dsimp only [Act.put]
  try simp only [List.setIfInBounds_toArray, List.set_cons_zero, List.set_cons_succ]
  refine wpAny_take (i := 5) (oi := { dst := some 28, op := Op.move (Operand.tmp 8), type := 74, pos := "bits.go:510", after := #[{ on := 10, ground := Ground.gcOnly Departure.lateStores }], guard := none }) (v := .int .u64 ((t : Nat) : Int)) rfl (by kernel_rfl) (by kernel_rfl) (by kernel_rfl) (fun _ _ _ h => h) (Or.inl ⟨by rfl, fun W => ?z5⟩) ?_
  case z5 => go_simp
  try dsimp only [Act.put]
  try simp only [List.setIfInBounds_toArray, List.set_cons_zero, List.set_cons_succ]
  refine wpAny_take (i := 6) (oi := { dst := some 29, op := Op.move (Operand.tmp 2), type := 66, pos := "bits.go:510", after := #[{ on := 10, ground := Ground.gcOnly Departure.lateStores }], guard := none }) (v := .int .u32 ((y : Nat) : Int)) rfl (by kernel_rfl) (by kernel_rfl) (by kernel_rfl) (fun _ _ _ h => h) (Or.inl ⟨by rfl, fun W => ?z6⟩) ?_
  case z6 => go_simp
  try dsimp only [Act.put]
  try simp only [List.setIfInBounds_toArray, List.set_cons_zero, List.set_cons_succ]
  refine wpAny_take (i := 7) (oi := { dst := some 30, op := Op.convert 66 74 (Operand.tmp 29), type := 74, pos := "bits.go:510", after := #[{ on := 6, ground := Ground.data }, { on := 10, ground := Ground.gcOnly Departure.lateStores }], guard := none }) (v := .int .u64 ((y : Nat) : Int)) rfl (by kernel_rfl) (by kernel_rfl) (by kernel_rfl) (fun _ _ _ h => h) (Or.inl ⟨by rfl, fun W => ?z7⟩) ?_
  case z7 => (go_simp; exact IntWalk.u64_in _ (by omega))
  try dsimp only [Act.put]
  try simp only [List.setIfInBounds_toArray, List.set_cons_zero, List.set_cons_succ]
  refine wpAny_take (i := 8) (oi := { dst := some 31, op := Op.binOp BinOp.rem 74 (Operand.tmp 28) (Operand.tmp 30) 74, type := 74, pos := "bits.go:510", after := #[{ on := 5, ground := Ground.data }, { on := 7, ground := Ground.data }, { on := 10, ground := Ground.gcOnly Departure.lateStores }], guard := none }) (v := .int .u64 ((r : Nat) : Int)) rfl (by kernel_rfl) (by kernel_rfl) (by kernel_rfl) (fun _ _ _ h => h) (Or.inl ⟨by rfl, fun W => ?z8⟩) ?_
  case z8 => (go_simp; rw [if_neg (by omega), IntWalk.rem_in _ _ (by omega), HR.out])
  try dsimp only [Act.put]
  try simp only [List.setIfInBounds_toArray, List.set_cons_zero, List.set_cons_succ]
  refine wpAny_take (i := 9) (oi := { dst := some 32, op := Op.convert 74 66 (Operand.tmp 31), type := 66, pos := "bits.go:510", after := #[{ on := 8, ground := Ground.data }, { on := 10, ground := Ground.gcOnly Departure.lateStores }], guard := none }) (v := .int .u32 ((r : Nat) : Int)) rfl (by kernel_rfl) (by kernel_rfl) (by kernel_rfl) (fun _ _ _ h => h) (Or.inl ⟨by rfl, fun W => ?z9⟩) ?_
  case z9 => (go_simp; exact IntWalk.u32_in _ (by omega))
  try dsimp only [Act.put]
  try simp only [List.setIfInBounds_toArray, List.set_cons_zero, List.set_cons_succ]
  refine wpAny_take (i := 10) (oi := { dst := some 6, op := Op.assign (Operand.tmp 27), type := 66, pos := "bits.go:510", after := #[{ on := 4, ground := Ground.data }, { on := 0, ground := Ground.phase }, { on := 1, ground := Ground.phase }, { on := 2, ground := Ground.phase }, { on := 3, ground := Ground.phase }, { on := 4, ground := Ground.phase }, { on := 5, ground := Ground.textOnly Departure.lateStores }, { on := 6, ground := Ground.textOnly Departure.lateStores }, { on := 7, ground := Ground.textOnly Departure.lateStores }, { on := 8, ground := Ground.textOnly Departure.lateStores }, { on := 9, ground := Ground.textOnly Departure.lateStores }], guard := none }) (v := .int .u32 ((q : Nat) : Int)) rfl (by kernel_rfl) (by kernel_rfl) (by kernel_rfl) (fun _ _ _ h => h) (Or.inl ⟨by rfl, fun W => ?z10⟩) ?_
  case z10 => go_simp
  try dsimp only [Act.put]
  try simp only [List.setIfInBounds_toArray, List.set_cons_zero, List.set_cons_succ]
  refine wpAny_take (i := 11) (oi := { dst := some 7, op := Op.assign (Operand.tmp 32), type := 66, pos := "bits.go:510", after := #[{ on := 9, ground := Ground.data }, { on := 10, ground := Ground.chain }, { on := 0, ground := Ground.phase }, { on := 1, ground := Ground.phase }, { on := 2, ground := Ground.phase }, { on := 3, ground := Ground.phase }, { on := 4, ground := Ground.phase }, { on := 5, ground := Ground.phase }, { on := 6, ground := Ground.phase }, { on := 7, ground := Ground.phase }, { on := 8, ground := Ground.phase }, { on := 9, ground := Ground.phase }, { on := 10, ground := Ground.phase }], guard := none }) (v := .int .u32 ((r : Nat) : Int)) rfl (by kernel_rfl) (by kernel_rfl) (by kernel_rfl) (fun _ _ _ h => h) (Or.inl ⟨by rfl, fun W => ?z11⟩) ?_
  case z11 => go_simp
  try dsimp only [Act.put]
  try simp only [List.setIfInBounds_toArray, List.set_cons_zero, List.set_cons_succ]
  refine wpAny_done (by kernel_rfl) ?_ _
  try dsimp only [Act.put]
  try simp only [List.setIfInBounds_toArray, List.set_cons_zero, List.set_cons_succ]
  go_wp2
  go_ret2
  exact ⟨rfl, 1, rfl⟩
end Go.Proofs.YtbfhilbagojdnaaGreat
namespace Go.Proofs.YtbfhilbagojdnaaGreat
open Go.RowKit Wr Go.Proofs.YtbfhilbagojdnaaGreat.Nm
set_option linter.unusedVariables false
set_option maxRecDepth 100000

/-- The cells of a row in a block: what stands before it, its limbs, what stands behind. -/
def Row (w : World) (g : Nat) (pre : List Value) (l : List Nat) (post : List Value) : Prop := Blk w g 66 (pre ++ (Lc l ++ post))
theorem Row.cell {w : World} {g : Nat} {pre post : List Value} {l : List Nat} (h : Row w g pre l post) (i : Nat) (hi : i < l.length) : w.cell? ⟨g, pre.length + i, none⟩ = some (.int .u32 ((l[i] : Nat) : Int)) := by
  rw [Blk.cell h, List.getElem?_append_right (by omega), Nat.add_sub_cancel_left, List.getElem?_append_left (by rw [Lc_len]; exact hi), Lc_get l i hi]
theorem Row.put {w : World} {g : Nat} {pre post : List Value} {l : List Nat} (h : Row w g pre l post) (i x : Nat) (hi : i < l.length) : Row (w.setCell ⟨g, pre.length + i, none⟩ (.int .u32 ((x : Nat) : Int))) g pre (l.set i x) post := by
  have := Blk.put h (pre.length + i) (.int .u32 ((x : Nat) : Int))
  unfold Row
  rw [List.set_append_right _ _ (by omega), Nat.add_sub_cancel_left, List.set_append_left _ _ (by rw [Lc_len]; exact hi), Lc_set] at this
  exact this
theorem grown_put {w w' : World} {g : Nat} (h : w.grownBy w' (some g)) (i : Nat) (u : Value) : w.grownBy (w'.setCell ⟨g, i, none⟩ u) (some g) := by
  have b : ∀ k, k ≠ g → (w'.setCell ⟨g, i, none⟩ u).heap[k]? = w'.heap[k]? := fun k hk => Below.heap_setCell w' ⟨g, i, none⟩ u k hk
  exact ⟨h.os, h.tape, h.output, by simpa using h.size, fun k hk hn => by rw [b k (by intro e; subst e; exact hn rfl)]; exact h.block k hk hn⟩
theorem grown_refl (w : World) (g : Option Nat) : w.grownBy w g := ⟨rfl, rfl, rfl, Nat.le_refl _, fun _ _ _ => rfl⟩
theorem grown_below {w w' : World} {g : Nat} (h : w.grownBy w' (some g)) (hg : g ≤ w.heap.size) : Below g w w' :=
  ⟨h.os, h.tape, h.output, h.size, fun k hk => h.block k (by omega) (by intro e; injection e with e; omega)⟩
theorem set_snoc (R : List Nat) (D : List Nat) (i x : Nat) (h : i < R.length) (hD : D.length = i) : (D ++ R.drop i).set i x = (D ++ [x]) ++ R.drop (i + 1) := by
  rw [List.set_append_right _ _ (by omega), hD, Nat.sub_self, List.drop_eq_getElem_cons h, List.set_cons_zero]
  simp

set_option maxHeartbeats 1000000 in
theorem addTimes_any (g : Nat) (pre post : List Value) (R l : List Nat) (m c c2 : Nat) (A2 : Option Addr) (w : World) (hR : Ok R) (hl : Ok l) (hm : m < 4294967296) (hlen : l.length = R.length) (hn : R.length ≤ 1048576)
    (hp : pre.length ≤ 1048576) (hb : Row w g pre R post) (hr : Rd w g A2 (Lc l)) :
    Calls Tryz.prog 96 #[.slice (some ⟨g, pre.length, none⟩) R.length c, .slice A2 l.length c2, .int .u32 (m : Int)] w fun e w' =>
      e = .returned (.int .u32 (((num R + m * num l) / 4294967296 ^ R.length : Nat) : Int)) ∧ Row w' g pre (digs R.length (num R + m * num l)) post ∧ w.grownBy w' (some g) := by
  obtain ⟨N, hN⟩ : ∃ N, N = R.length := ⟨_, rfl⟩
  obtain ⟨p, hpp⟩ : ∃ p, p = pre.length := ⟨_, rfl⟩
  obtain ⟨T, hT⟩ : ∃ T, T = num R + m * num l := ⟨_, rfl⟩
  rw [hlen, ← hN, ← hpp, ← hT]
  rw [← hN] at hn hlen
  rw [← hpp] at hp
  have HN := Lib.hid hN; have HP := Lib.hid hpp; have HT := Lib.hid hT; have HL := Lib.hid hlen
  clear hN hpp hT hlen
  go_enter Tryz.func96, Tryz.ntmps96
  go_wp2
  go_loopw [7, 12] (fun s7 s12 wr => ∃ k : Nat, k ≤ N ∧ s12 = .int .i64 k ∧ s7 = .int .u64 ((sumT R l m k / 4294967296 ^ k : Nat) : Int) ∧ Row wr g pre (digs k (sumT R l m k) ++ R.drop k) post ∧ w.grownBy wr (some g)) (fun _ s12 _ => N - (intOf s12).toNat)
  case atStart => exact ⟨0, Nat.zero_le _, rfl, by rw [sumT_zero]; rfl, by simpa [digs] using hb, grown_refl _ _⟩
  case round =>
    obtain ⟨k, hk, rfl, rfl, hrow, hg⟩ := hrel
    by_cases hlt : k < N
    · have hkR : k < R.length := by have := HN.out; omega
      have hkl : k < l.length := by have := HL.out; omega
      have hD := digs_len k (sumT R l m k)
      have hrl : Rd wr g A2 (Lc l) := hr.below (grown_below hg (Nat.le_of_lt hb.lt))
      obtain ⟨g2, o2, rfl, hg2, hc2⟩ := limb_cell hrl k hkl
      have hc1 := hrow.cell k (by simp [hD]; omega)
      rw [← HP.out] at hc1
      have e1 : (digs k (sumT R l m k) ++ R.drop k)[k]'(by simp [hD]; omega) = R[k] := by
        rw [List.getElem_append_right (by omega)]; simp [hD]
      rw [e1] at hc1
      have hf1 := Blk.frozen hrow (p + k)
      have hx := hR.get k hkR
      have hy := hl.get k hkl
      have hq := sumT_lt R l m k hR hl hm (by omega) (by omega)
      have hdig := sumT_digs R l m k hkR hkl
      have hnx := sumT_next R l m k hkR hkl
      generalize sumT R l m k / 4294967296 ^ k = q at hdig hnx hq
      have hput := hrow.put k ((q + (R[k] + m * l[k])) % 4294967296) (by simp [hD]; omega)
      rw [← HP.out, set_snoc R _ k _ hkR hD, ← hdig] at hput
      have hgp := grown_put hg (p + k) (.int .u32 (((q + (R[k] + m * l[k])) % 4294967296 : Nat) : Int))
      generalize R[k] = x at *
      generalize l[k] = y at *
      have HPut := Lib.hid hput
      have HGp := Lib.hid hgp
      have HNx := Lib.hid hnx
      clear hput hgp hdig hnx hrow hg hr hrl hb hR hl e1 hD
      have b1 : ((y : Int) * (m : Int)) ≤ 18446744065119617025 := by
        have : y * m ≤ 4294967295 * 4294967295 := Nat.mul_le_mul (by omega) (by omega)
        have e : ((y * m : Nat) : Int) = (y : Int) * (m : Int) := by simp
        omega
      have b0 : 0 ≤ ((y : Int) * (m : Int)) := Int.mul_nonneg (by omega) (by omega)
      have i1 : (k : Int) < (N : Int) := by omega
      go_wp2
      go_roundw
      case rel =>
        have ec : ((q + (x + m * y) : Nat) : Int) = (q : Int) + ((x : Int) + (y : Int) * (m : Int)) := by rw [Int.mul_comm (y : Int)]; simp
        have ed : (((q + (x + m * y)) / 4294967296 : Nat) : Int) = ((q : Int) + ((x : Int) + (y : Int) * (m : Int))) / 4294967296 := by rw [← ec]; rfl
        have em : (((q + (x + m * y)) % 4294967296 : Nat) : Int) = ((q : Int) + ((x : Int) + (y : Int) * (m : Int))) % 4294967296 := by rw [← ec]; rfl
        refine ⟨k + 1, hlt, by go_num, ?_, ?_, ?_⟩
        · rw [HNx.out, ed]
        · rw [← em]; exact HPut.out
        · rw [← em]; exact HGp.out
      case measure => simp only [intOf]; omega
    · obtain rfl : k = N := by omega
      have hq := sumT_lt R l m k hR hl hm (by rw [HN.out]; exact Nat.le_refl _) (by rw [HL.out]; exact Nat.le_refl _)
      have hS : sumT R l m k = T := by rw [HN.out, HT.out, sumT_all R l m (by rw [HL.out, HN.out])]
      rw [hS] at hq hrow
      rw [hS]
      rw [List.drop_of_length_le (by rw [HN.out]; exact Nat.le_refl _), List.append_nil] at hrow
      generalize hQ : T / 4294967296 ^ k = q at hq ⊢
      have HQ := Lib.hid hQ
      have HRow := Lib.hid hrow
      have HG := Lib.hid hg
      clear hrow hg hS hr hb hQ
      go_wp2
      go_ret
      exact ⟨by rw [HQ.out]; rfl, HRow.out, HG.out⟩
end Go.Proofs.YtbfhilbagojdnaaGreat
namespace Go.Proofs.YtbfhilbagojdnaaGreat
open Go.RowKit Wr Go.Proofs.YtbfhilbagojdnaaGreat.Nm
set_option linter.unusedVariables false
set_option maxRecDepth 100000

def TakeP (w : World) (g : Nat) (pre post : List Value) (R l : List Nat) (m : Nat) (e : Ending) (w' : World) : Prop :=
  ∃ b d, e = .returned (.int .u32 ((b : Nat) : Int)) ∧ b ≤ m ∧ num R + 4294967296 ^ R.length * b = m * num l + d ∧ d < 4294967296 ^ R.length ∧ Row w' g pre (digs R.length d) post ∧ w.grownBy w' (some g)
set_option maxHeartbeats 1000000 in
theorem takeTimes_any (g : Nat) (pre post : List Value) (R l : List Nat) (m c c2 : Nat) (A2 : Option Addr) (w : World) (hR : Ok R) (hl : Ok l) (hm : m < 4294967296) (hlen : l.length = R.length) (hn : R.length ≤ 1048576)
    (hp : pre.length ≤ 1048576) (hb : Row w g pre R post) (hr : Rd w g A2 (Lc l)) :
    Calls Tryz.prog 130 #[.slice (some ⟨g, pre.length, none⟩) R.length c, .slice A2 l.length c2, .int .u32 (m : Int)] w (TakeP w g pre post R l m) := by
  obtain ⟨N, hN⟩ : ∃ N, N = R.length := ⟨_, rfl⟩
  obtain ⟨p, hpp⟩ : ∃ p, p = pre.length := ⟨_, rfl⟩
  rw [hlen, ← hN, ← hpp]
  rw [← hN] at hn hlen
  rw [← hpp] at hp
  have HN := Lib.hid hN; have HP := Lib.hid hpp; have HL := Lib.hid hlen
  clear hN hpp hlen
  go_enter Tryz.func130, Tryz.ntmps130
  go_wp2
  go_loopw [7, 13] (fun s7 s13 wr => ∃ k b d : Nat, k ≤ N ∧ s13 = .int .i64 k ∧ s7 = .int .u64 ((b : Nat) : Int) ∧ Tk R l m k b d ∧ Row wr g pre (digs k d ++ R.drop k) post ∧ w.grownBy wr (some g)) (fun _ s13 _ => N - (intOf s13).toNat)
  case atStart => exact ⟨0, 0, 0, Nat.zero_le _, rfl, rfl, Tk.zero _ _ _, by simpa [digs] using hb, grown_refl _ _⟩
  case round =>
    obtain ⟨k, b, d, hk, rfl, rfl, htk, hrow, hg⟩ := hrel
    have hbm := htk.le hl (by rw [HL.out]; exact hk)
    by_cases hlt : k < N
    · have hkR : k < R.length := by have := HN.out; omega
      have hkl : k < l.length := by have := HL.out; omega
      have hD := digs_len k d
      have hrl : Rd wr g A2 (Lc l) := hr.below (grown_below hg (Nat.le_of_lt hb.lt))
      obtain ⟨g2, o2, rfl, hg2, hc2⟩ := limb_cell hrl k hkl
      have hc1 := hrow.cell k (by simp [hD]; omega)
      rw [← HP.out] at hc1
      have e1 : (digs k d ++ R.drop k)[k]'(by simp [hD]; omega) = R[k] := by
        rw [List.getElem_append_right (by omega)]; simp [hD]
      rw [e1] at hc1
      have hf1 := Blk.frozen hrow (p + k)
      have hx := hR.get k hkR
      have hy := hl.get k hkl
      have b1 : ((l[k] : Nat) : Int) * (m : Int) ≤ 18446744065119617025 := by
        have : l[k] * m ≤ 4294967295 * 4294967295 := Nat.mul_le_mul (by omega) (by omega)
        have e : ((l[k] * m : Nat) : Int) = ((l[k] : Nat) : Int) * (m : Int) := by simp
        omega
      have b0 : 0 ≤ ((l[k] : Nat) : Int) * (m : Int) := Int.mul_nonneg (by omega) (by omega)
      have i1 : (k : Int) < (N : Int) := by omega
      obtain ⟨t, ht⟩ : ∃ t, t = b + l[k] * m := ⟨_, rfl⟩
      have et : ((t : Nat) : Int) = (b : Int) + ((l[k] : Nat) : Int) * (m : Int) := by rw [ht]; simp
      have hd := htk.lt
      by_cases hlow : R[k] < t % 4294967296
      · obtain ⟨q1, q2⟩ := take_limb R[k] t hx hlow
        rw [ht] at q1
        have hst := htk.step hkR hkl (by rw [← ht] at q1; exact q2) (by rw [ht] at q2 ⊢; exact q1)
        rw [← ht] at hst
        have hput := hrow.put k (R[k] + 4294967296 - t % 4294967296) (by simp [hD]; omega)
        rw [← HP.out, set_snoc R _ k _ hkR hD, ← digs_more k d _ hd q2] at hput
        have hgp := grown_put hg (p + k) (.int .u32 ((R[k] + 4294967296 - t % 4294967296 : Nat) : Int))
        have hlow' : decide (((R[k] : Nat) : Int) < ((b : Int) + ((l[k] : Nat) : Int) * (m : Int)) % 4294967296) = true := by rw [← et]; simp; omega
        have HSt := Lib.hid hst
        have HPut := Lib.hid hput
        have HGp := Lib.hid hgp
        have HE := Lib.hid et
        clear hput hgp hrow hg hr hrl hb hR hl e1 hD htk hst q1 ht et hd
        generalize R[k] = x at *
        generalize l[k] = y at *
        go_wp2
        go_roundw
        case rel =>
          have et := HE.out
          have ev : ((x : Int) - ((b : Int) + (y : Int) * (m : Int))) % 4294967296 = ((x + 4294967296 - t % 4294967296 : Nat) : Int) := by rw [← et]; omega
          have eb : ((b : Int) + (y : Int) * (m : Int)) / 4294967296 + 1 = ((t / 4294967296 + 1 : Nat) : Int) := by rw [← et]; omega
          rw [ev, eb]
          exact ⟨k + 1, _, _, hlt, by go_num, rfl, HSt.out, HPut.out, HGp.out⟩
        case measure => simp only [intOf]; omega
      · obtain ⟨q1, q2⟩ := take_limb' R[k] t hx (by omega)
        rw [ht] at q1
        have hst := htk.step hkR hkl (by rw [← ht] at q1; exact q2) (by rw [ht] at q2 ⊢; exact q1)
        rw [← ht] at hst
        have hput := hrow.put k (R[k] - t % 4294967296) (by simp [hD]; omega)
        rw [← HP.out, set_snoc R _ k _ hkR hD, ← digs_more k d _ hd q2] at hput
        have hgp := grown_put hg (p + k) (.int .u32 ((R[k] - t % 4294967296 : Nat) : Int))
        have hlow' : decide (((R[k] : Nat) : Int) < ((b : Int) + ((l[k] : Nat) : Int) * (m : Int)) % 4294967296) = false := by rw [← et]; simp; omega
        have HSt := Lib.hid hst
        have HPut := Lib.hid hput
        have HGp := Lib.hid hgp
        have HE := Lib.hid et
        clear hput hgp hrow hg hr hrl hb hR hl e1 hD htk hst q1 ht et hd
        generalize R[k] = x at *
        generalize l[k] = y at *
        go_wp2
        go_roundw
        case rel =>
          have et := HE.out
          have ev : ((x : Int) - ((b : Int) + (y : Int) * (m : Int))) % 4294967296 = ((x - t % 4294967296 : Nat) : Int) := by rw [← et]; omega
          have eb : ((b : Int) + (y : Int) * (m : Int)) / 4294967296 = ((t / 4294967296 : Nat) : Int) := by rw [← et]; omega
          rw [ev, eb]
          exact ⟨k + 1, _, _, hlt, by go_num, rfl, HSt.out, HPut.out, HGp.out⟩
        case measure => simp only [intOf]; omega
    · obtain rfl : k = N := by omega
      have hall := Tk.all (m := m) (b := b) (d := d) (R := R) (l := l) (by rw [← HN.out]; exact htk) (by rw [HL.out, HN.out])
      rw [List.drop_of_length_le (by rw [HN.out]; exact Nat.le_refl _), List.append_nil] at hrow
      have HA := Lib.hid hall
      have HRow := Lib.hid hrow
      have HG := Lib.hid hg
      clear hrow hg hr hb hall htk
      go_wp2
      go_ret
      exact ⟨b, d, rfl, hbm, HA.out.1, HA.out.2, by rw [← HN.out]; exact HRow.out, HG.out⟩
end Go.Proofs.YtbfhilbagojdnaaGreat
