/-
  The writer's box; the contract of put.
  No condition but the lengths.
-/
import Derived.Test.YtpbhgebblpdmnaaDoorRf
import Derived.Lib.AppendStr
namespace Go.Proofs.YtpbhgebblpdmnaaDoor
open Go.RowKit Wr Src
set_option linter.unusedVariables false
set_option maxRecDepth 100000
structure WS (h : Nat) (w : World) (v : Value) (x : Src.Wr) (dp : Nat) : Prop where
 b : Blk w h 68 [v, nv dp, .bool x.bad]
 o : w.ownsRow (h + 1) 5 1 v x.text.length (B8 x.text)
structure WK (h : Nat) (w : World) (v : Value) (w' : World) (v' : Value) : Prop where
 k : Kp (fun k => k = h ∨ some k = v.ownBlock) w w'
 r : ∀ k, k < w.heap.size → some k = v'.ownBlock → some k = v.ownBlock
theorem WK.refl (h : Nat) (w : World) (v : Value) : WK h w v w v := ⟨Kp.refl _ _, fun _ _ e => e⟩
theorem WK.trans {h : Nat} {a b c : World} {u v x : Value} (k : WK h a u b v) (l : WK h b v c x) : WK h a u c x :=
 ⟨k.k.trans l.k (fun j hj e => e.imp id (fun e => k.r j hj e)), fun j hj e => k.r j hj (l.r j (Nat.lt_of_lt_of_le hj k.k.size) e)⟩
theorem WK.below {h : Nat} {a b : World} {v : Value} (l : Below a.heap.size a b) : WK h a v b v := ⟨Kp.of_below' l, fun _ _ e => e⟩
theorem WK.blk {h : Nat} {a b : World} {u v : Value} {g : Nat} {t : TypeId} {cs : List Value} (k : WK h a u b v) (hb : Blk a g t cs) (h1 : g ≠ h) (h2 : some g ≠ u.ownBlock) : Blk b g t cs ∧ some g ≠ v.ownBlock :=
 ⟨k.k.blk hb (fun e => e.elim h1 h2), fun e => h2 (k.r g hb.lt e)⟩
theorem WS.below {h : Nat} {a b : World} {v : Value} {x : Src.Wr} {dp : Nat} (s : WS h a v x dp) (l : Below a.heap.size a b) : WS h b v x dp := ⟨s.b.below l s.b.lt, own_below s.o l⟩
theorem WS.hlt {h : Nat} {a : World} {v : Value} {x : Src.Wr} {dp : Nat} (s : WS h a v x dp) : h < a.heap.size := s.b.lt
theorem WS.olt {h : Nat} {a : World} {v : Value} {x : Src.Wr} {dp : Nat} (s : WS h a v x dp) {k : Nat} (e : some k = v.ownBlock) : h + 1 ≤ k ∧ k < a.heap.size := s.o.lt k e.symm
theorem WS.fresh {h : Nat} {a : World} {v : Value} {x : Src.Wr} {dp : Nat} (s : WS h a v x dp) {k : Nat} (hk : a.heap.size ≤ k) : some k ≠ v.ownBlock := fun e => by have := (s.olt e).2; omega
theorem WK.nv {h : Nat} {a b : World} {u v : Value} {x : Src.Wr} {dp : Nat} {n : Nd} {cs : List Value} (k : WK h a u b v) (s : WS h a u x dp) (hn : NV a (fun j => j < h) n cs) : NV b (fun j => j < h) n cs :=
 k.k.nv hn (fun g h1 _ e => by rcases e with e | e; omega; have := (s.olt e).1; omega)
theorem WK.nl {h : Nat} {a b : World} {u v : Value} {x : Src.Wr} {dp : Nat} {n : List Nd} {cs : List Value} (k : WK h a u b v) (s : WS h a u x dp) (hn : NL a (fun j => j < h) n cs) : NL b (fun j => j < h) n cs :=
 k.k.nl hn (fun g h1 _ e => by rcases e with e | e; omega; have := (s.olt e).1; omega)
theorem WK.rd {h : Nat} {a b : World} {u v : Value} {x : Src.Wr} {dp : Nat} {A : Option Addr} {cs : List Value} (k : WK h a u b v) (s : WS h a u x dp) (hn : RdP a (fun j => j < h) A cs) : RdP b (fun j => j < h) A cs :=
 hn.keep (fun g h1 h2 => ⟨k.k.block g h2 (fun e => by rcases e with e | e; omega; have := (s.olt e).1; omega), h1⟩)
theorem WK.tab {B h : Nat} {a b : World} {u v : Value} {x : Src.Wr} {dp : Nat} (k : WK h a u b v) (s : WS h a u x dp) (ht : Tab B a) (hB : B ≤ h) : Tab B b :=
 ht.kp k.k (fun g h1 e => by rcases e with e | e; omega; have := (s.olt e).1; omega)
def WOut (h : Nat) (w : World) (v : Value) (x' : Src.Wr) (dp : Nat) (w' : World) : Prop := ∃ v', WS h w' v' x' dp ∧ WK h w v w' v'
def Lim (s : Nat) (x : Src.Wr) : Prop := (x.bad = false → x.text.length ≤ 1024) ∧ x.text.length ≤ 1024 + s
theorem Lim.mono {s s' : Nat} {x : Src.Wr} (h : Lim s x) (hs : s ≤ s') : Lim s' x := ⟨h.1, by have := h.2; omega⟩
theorem Lim.ok {s : Nat} {x : Src.Wr} (h : Lim s x) (hb : x.bad = false) : Lim 0 x := ⟨h.1, h.1 hb⟩
def blk' (x t : Str) : Str := if x ≠ [] ∧ x.getLast? ≠ some 40 ∧ t ≠ [41] ∧ t ≠ [59] then x ++ [32] else x
theorem put_eq (w : Src.Wr) (t : Str) : w.put t = if 1024 < (blk' w.text t).length + t.length then ⟨blk' w.text t, true⟩ else ⟨blk' w.text t ++ t, w.bad⟩ := rfl
theorem blk_len (x t : Str) : (blk' x t).length ≤ x.length + 1 := by unfold blk'; split <;> simp
theorem Lim.put {s : Nat} {x : Src.Wr} (h : Lim s x) (t : Str) : Lim (s + 1) (x.put t) := by
 rw [put_eq]
 have h1 := blk_len x.text t
 have h2 := h.2
 split
 ·
  exact ⟨fun e => by simp at e, by dsimp only; omega⟩
 ·
  rename_i h3
  exact ⟨fun e => by dsimp only; rw [List.length_append]; omega, by dsimp only; rw [List.length_append]; omega⟩
theorem B8_str (t : Str) : Lib.strCells ⟨t.toArray⟩ = B8 t := rfl
theorem own_form {w : World} {h n : Nat} {v : Value} {xs : List Value} {e : TypeId} (o : w.ownsRow h e 1 v n xs) : ∃ A c, v = .slice A n c ∧ (A = none → c = 0 ∧ n = 0) ∧ n ≤ c := by
 rcases o.2 with ⟨h1, h2⟩ | ⟨g, c, cur, h1, h2, h3, h4, _⟩
 ·
  exact ⟨none, 0, by rw [h1, h2], (fun _ => ⟨rfl, h2⟩), by omega⟩
 ·
  exact ⟨some ⟨g, 0, none⟩, c, h1, (fun h => by cases h), h4⟩
theorem infoB : ∃ i, Tryd.prog.info? 5 = some i ∧ i.zero = some (.int .u8 0) ∧ i.size = 1 ∧ i.bytes = 1 := by
 have h : (Tryd.prog.info? 5).map (fun i => (i.zero, i.size, i.bytes)) = some (some (.int .u8 0), 1, 1) := by kernel_rfl
 cases hq : Tryd.prog.info? 5 with
 | none => rw [hq] at h; cases h
 | some i =>
  rw [hq] at h
  simp only [Option.map_some, Option.some.injEq, Prod.mk.injEq] at h
  exact ⟨i, rfl, h.1, h.2.1, h.2.2⟩
section
variable {P : Program} (w : World)
theorem run_append_str_lies (base : Nat) (t u ty e : TypeId) (i : TypeInfo) (ht : P.underlying t = some (.slice e)) (hu : P.underlying u = some .string) (hi : P.info? e = some i) (hz : i.zero = some (.int .u8 0))
  (hsize : i.size = 1) (hby : i.bytes = 1) (v : Value) (n : Nat) (xs : List Value) (hown : w.ownsRow base e 1 v n xs) (s : ByteArray)
  (h63 : n + s.size ≤ maxLen) (hbytes : n + s.size ≤ 140737488355328) (hbase : base ≤ w.heap.size) :
  ∃ v' w', (Builtin.append_ #[t, u] ty #[v, .string s]).run P w = .ok v' w' ∧ w'.ownsRow base e 1 v' (n + s.size) (xs ++ Lib.strCells s) ∧ w.grownBy w' v.ownBlock ∧ (∀ k, some k = v'.ownBlock → some k = v.ownBlock ∨ w.heap.size ≤ k) := by
 obtain ⟨v', w', hr, h2, h3, h4⟩ := Lib.run_append_own_string (P := P) w base t u ty e i ht hu hi hz hsize hby v n xs hown s h63 hbytes hbase
 refine ⟨v', w', hr, h2, h3, fun k hk => ?_⟩
 have hxl : xs.length = n := by simpa using hown.1
 have hsmall : n + s.size ≤ 9223372036854775807 := by simp only [maxLen] at h63; omega
 rcases hown.2 with ⟨rfl, rfl⟩ | ⟨g, cap, cur, rfl, hbg, hg, hnc, hcm, hcs, htake⟩
 ·
  by_cases hm : s.size = 0
  ·
   rw [h4.2 ⟨rfl, hm⟩] at hk
   exact Or.inl hk
  ·
   rw [run_append_nil_string (P := P) w t u ty e i (.int .u8 0) ht hu hi hz s (by omega) (by omega) (by rw [hby]; omega)] at hr
   injection hr with e1 e2
   rw [← e1] at hk
   simp only [Value.ownBlock, Option.some.injEq] at hk
   exact Or.inr (by omega)
 ·
  by_cases hroom : n + s.size ≤ cap
  ·
   have hcs' : cur.size = cap := by simpa using hcs
   rw [Lib.run_append_room_string (P := P) w t u ty e i ht hu hi hsize g n cap cur hg s hroom (by omega)] at hr
   injection hr with e1 e2
   rw [← e1] at hk
   exact Or.inl hk
  ·
   have holds : ∀ j u, xs[j]? = some u → w.cell? ((⟨g, 0, none⟩ : Addr).add j) = some u := hown.cells (g := g) rfl
   rw [Lib.run_append_grow_string (P := P) w t u ty e i (.int .u8 0) ht hu hi hz ⟨g, 0, none⟩ n cap xs (by rw [hsize]; simpa using hxl) holds s (by omega) (by omega) (by rw [hby]; exact growslice_fits (by omega) (by omega))] at hr
   injection hr with e1 e2
   rw [← e1] at hk
   simp only [Value.ownBlock, Option.some.injEq] at hk
   exact Or.inr (by omega)
theorem wpList_append_str_lies {ops : Array Oper} {rest : List Oper} {o : Oper} {a : Act} {Q : Exit → Act → World → Prop} (hgd : o.guard = none) (sl x : Operand) (t u : TypeId)
  (ho : o.op = .call { callee := .builtin .append, args := #[sl, x], argTypes := #[t, u] })
  (base : Nat) (e : TypeId) (i : TypeInfo) (ht : P.underlying t = some (.slice e)) (hu : P.underlying u = some .string) (hi : P.info? e = some i) (hz : i.zero = some (.int .u8 0))
  (hsize : i.size = 1) (hby : i.bytes = 1) (v : Value) (n : Nat) (xs : List Value) (hs : a.eval sl = v) (hown : w.ownsRow base e 1 v n xs) (s : ByteArray) (hx : a.eval x = .string s)
  (h63 : n + s.size ≤ maxLen) (hbytes : n + s.size ≤ 140737488355328) (hbase : base ≤ w.heap.size)
  (h : ∀ v' w', w'.ownsRow base e 1 v' (n + s.size) (xs ++ Lib.strCells s) → w.grownBy w' v.ownBlock → (∀ k, some k = v'.ownBlock → some k = v.ownBlock ∨ w.heap.size ≤ k) → wpList P ops Q rest (a.put o.dst v') w') : wpList P ops Q (o :: rest) a w := by
 refine wpList_plain hgd fun K hK => ?_
 obtain ⟨v', w', hr, h2, h3, h4⟩ := run_append_str_lies (P := P) w base t u o.type e i ht hu hi hz hsize hby v n xs hown s h63 hbytes hbase
 unfold Oper.wp execOp
 simp only [ho, resolve, invoke, builtin, Sem.run_bind, Sem.run_pure, Result.andThen_ok, List.map_toArray, List.map_cons, List.map_nil, hs, hx, hr]
 exact hK _ _ (h v' w' h2 h3 h4)
end
theorem own_kp {w w' : World} {b s n : Nat} {e : TypeId} {v : Value} {xs : List Value} {Z : Nat → Prop} (o : w.ownsRow b e s v n xs) (k : Kp Z w w') (hz : ∀ g, some g = v.ownBlock → ¬ Z g) : w'.ownsRow b e s v n xs := by
 refine ⟨o.1, ?_⟩
 rcases o.2 with h2 | ⟨g, c, cur, h1, h2, h3, h4⟩
 ·
  exact Or.inl h2
 ·
  refine Or.inr ⟨g, c, cur, h1, h2, ?_, h4⟩
  have hlt : g < w.heap.size := by
   rcases Nat.lt_or_ge g w.heap.size with hlt | hge
   ·
    exact hlt
   ·
    rw [Array.getElem?_eq_none hge] at h3; cases h3
  exact (k.block g hlt (hz g (by rw [h1]; rfl))).trans h3
theorem WS.put {h : Nat} {a : World} {v : Value} {x : Src.Wr} {dp : Nat} (s : WS h a v x dp) (i : Nat) (u : Value) : (a.setCell ⟨h, i, none⟩ u).ownsRow (h + 1) 5 1 v x.text.length (B8 x.text) :=
 own_kp s.o (Kp.setCell (Z := fun k => k = h) _ ⟨h, i, none⟩ u rfl) (fun g e e2 => by have := (s.olt e).1; omega)
theorem WS.setBad {h : Nat} {a : World} {v : Value} {x : Src.Wr} {dp : Nat} (s : WS h a v x dp) (c : Bool) : WS h (a.setCell ⟨h, 2, none⟩ (.bool c)) v ⟨x.text, c⟩ dp := ⟨s.b.put 2 _, s.put 2 _⟩
theorem WS.setDepth {h : Nat} {a : World} {v : Value} {x : Src.Wr} {dp : Nat} (s : WS h a v x dp) (d : Nat) : WS h (a.setCell ⟨h, 1, none⟩ (nv d)) v x d := ⟨s.b.put 1 _, s.put 1 _⟩
theorem WK.set {h : Nat} {a b : World} {u v : Value} (k : WK h a u b v) (i : Nat) (c : Value) : WK h a u (b.setCell ⟨h, i, none⟩ c) v :=
 ⟨k.k.set ⟨h, i, none⟩ c (Or.inl rfl), k.r⟩
theorem WS.app {h : Nat} {a b : World} {v v' : Value} {x : Src.Wr} {dp : Nat} {t : Str} (s : WS h a v x dp) (o : b.ownsRow (h + 1) 5 1 v' (x.text.length + t.length) (B8 x.text ++ B8 t)) (g : a.grownBy b v.ownBlock) (l : ∀ k, some k = v'.ownBlock → some k = v.ownBlock ∨ a.heap.size ≤ k) :
  WS h (b.setCell ⟨h, 0, none⟩ v') v' ⟨x.text ++ t, x.bad⟩ dp ∧ WK h a v (b.setCell ⟨h, 0, none⟩ v') v' := by
 have hne : some h ≠ v.ownBlock := fun e => by have := (s.olt e).1; omega
 have hb : Blk b h 68 [v, nv dp, .bool x.bad] := s.b.grown g hne
 refine ⟨⟨hb.put 0 _, ?_⟩, ⟨?_, fun k hk e => (l k e).resolve_right (by omega)⟩⟩
 ·
  rw [List.length_append, B8_append]
  exact own_kp o (Kp.setCell (Z := fun k => k = h) _ ⟨h, 0, none⟩ v' rfl) (fun g e e2 => by have := (o.lt g e.symm).1; omega)
 ·
  exact (Kp.grown g (fun k hk e => Or.inr e)).set ⟨h, 0, none⟩ v' (Or.inl rfl)
end Go.Proofs.YtpbhgebblpdmnaaDoor
