/-
  The contract of the reference's Bent, for every number.
  Conditions: at most 100000 leaves and sides; keys and values of at most 2^30 bytes.
-/
import Derived.Test.YtofccgkgjcnfbaaDoorZ
import Derived.Test.YtofccgkgjcnfbaaDoorRProve
import Derived.Test.YtofccgkgjcnfbaaDoorEqT
import Derived.Deep.CutBlock
set_option linter.unusedSimpArgs false
namespace Go.Proofs.YtofccgkgjcnfbaaDoor
open Go.RowKit Wr Sh
set_option linter.unusedVariables false
set_option maxRecDepth 100000
abbrev kBentM_0 : Oper := { dst := some 14, op := Op.buildSlice 24 0 #[], type := 24, pos := "ref.go:329", after := #[], guard := none }
abbrev kBentM_1 : Oper := { dst := some 18, op := Op.buildSlice 48 0 #[], type := 48, pos := "ref.go:329", after := #[], guard := none }
abbrev kBentM_2 : Oper := { dst := some 7, op := Op.alloc 54, type := 0, pos := "ref.go:329", after := #[], guard := none }
abbrev kBentM_3 : Oper := { dst := some 17, op := Op.call { callee := Callee.builtin Builtin.append, args := #[Operand.tmp 14, Operand.tmp 16], argTypes := #[24, 24] }, type := 24, pos := "ref.go:329", after := #[dD 4, dD 6], guard := none }
abbrev kBentM_4 : Oper := { dst := some 21, op := Op.call { callee := Callee.builtin Builtin.append, args := #[Operand.tmp 18, Operand.tmp 20], argTypes := #[48, 48] }, type := 48, pos := "ref.go:329", after := #[dD 8, dD 10, dC 7], guard := none }
abbrev kBentM_5 : Oper := { dst := some 22, op := Op.build 54 #[(0, Operand.tmp 11), (1, Operand.tmp 13), (2, Operand.tmp 17), (3, Operand.tmp 21)], type := 54, pos := "ref.go:329", after := #[dD 1, dD 3, dD 7, dD 11], guard := none }
abbrev kBentM_6 : Oper := { dst := none, op := Op.store 54 (Operand.tmp 7) (Operand.tmp 22), type := 0, pos := "ref.go:329", after := #[dD 13, dD 12, dC 11, dP 0, dP 1, dP 2, dP 3, dP 4, dP 5, dP 6, dP 7, dP 8, dP 9, dP 10, dP 11, dP 12, dP 13], guard := none }
abbrev kBentM_7 : Oper := { dst := some 113, op := Op.load 24 (Operand.tmp 112), type := 24, pos := "ref.go:351", after := #[dD 0], guard := none }
abbrev kBentM_8 : Oper := { dst := some 117, op := Op.load 24 (Operand.tmp 116), type := 24, pos := "ref.go:351", after := #[dD 4], guard := none }
abbrev kBentM_9 : Oper := { dst := some 115, op := Op.slice 24 (Operand.tmp 113) none (some (Operand.tmp 114)) none, type := 24, pos := "ref.go:351", after := #[dD 1, dD 2], guard := none }
abbrev kBentM_10 : Oper := { dst := some 120, op := Op.slice 24 (Operand.tmp 117) (some (Operand.tmp 119)) none none, type := 24, pos := "ref.go:351", after := #[dD 5, dD 7], guard := none }
abbrev kBentM_11 : Oper := { dst := some 121, op := Op.call { callee := Callee.builtin Builtin.append, args := #[Operand.tmp 115, Operand.tmp 120], argTypes := #[24, 24] }, type := 24, pos := "ref.go:351", after := #[dD 3, dD 8], guard := none }
abbrev kBentM_12 : Oper := { dst := some 122, op := Op.fieldAddr 54 (Operand.tmp 7) 2, type := 0, pos := "ref.go:351", after := #[dP 0, dP 1, dP 2, dP 3, dP 4, dP 5, dP 6, dP 7, dP 8, dP 9], guard := none }
abbrev kBentM_13 : Oper := { dst := none, op := Op.store 24 (Operand.tmp 122) (Operand.tmp 121), type := 0, pos := "ref.go:351", after := #[dD 10, dD 9, dC 9, dP 0, dP 1, dP 2, dP 3, dP 4, dP 5, dP 6, dP 7, dP 8, dP 9], guard := none }
abbrev kBentM_14 : Oper := { dst := some 126, op := Op.load 24 (Operand.tmp 125), type := 24, pos := "ref.go:354", after := #[dD 0], guard := none }
abbrev kBentM_15 : Oper := { dst := some 128, op := Op.call { callee := Callee.value (Operand.func 17), args := #[Operand.tmp 127, Operand.const (Value.int IntKind.i64 40)], argTypes := #[3, 3] }, type := 3, pos := "ref.go:354", after := #[dD 2], guard := none }
abbrev kBentM_16 : Oper := { dst := some 129, op := Op.call { callee := Callee.value (Operand.func 49), args := #[Operand.tmp 128], argTypes := #[3] }, type := 9, pos := "ref.go:354", after := #[dD 3, dC 3], guard := none }
abbrev kBentM_17 : Oper := { dst := some 130, op := Op.build 87 #[(0, Operand.tmp 129)], type := 87, pos := "ref.go:354", after := #[dD 4], guard := none }
abbrev kBentM_18 : Oper := { dst := some 131, op := Op.buildSlice 24 1 #[(0, Operand.tmp 130)], type := 24, pos := "ref.go:354", after := #[dD 5], guard := none }
abbrev kBentM_19 : Oper := { dst := some 132, op := Op.call { callee := Callee.builtin Builtin.append, args := #[Operand.tmp 126, Operand.tmp 131], argTypes := #[24, 24] }, type := 24, pos := "ref.go:354", after := #[dD 1, dD 6, dC 4], guard := none }
abbrev kBentM_20 : Oper := { dst := some 133, op := Op.fieldAddr 54 (Operand.tmp 7) 2, type := 0, pos := "ref.go:354", after := #[dP 0, dP 1, dP 2, dP 3, dP 4, dP 5, dP 6, dP 7], guard := none }
abbrev kBentM_21 : Oper := { dst := none, op := Op.store 24 (Operand.tmp 133) (Operand.tmp 132), type := 0, pos := "ref.go:354", after := #[dD 8, dD 7, dC 7, dP 0, dP 1, dP 2, dP 3, dP 4, dP 5, dP 6, dP 7], guard := none }
abbrev kBentM_22 : Oper := { dst := some 46, op := Op.load 3 (Operand.tmp 45), type := 3, pos := "ref.go:334", after := #[dD 0], guard := none }
abbrev kBentM_23 : Oper := { dst := some 48, op := Op.call { callee := Callee.value (Operand.func 17), args := #[Operand.tmp 47, Operand.const (Value.int IntKind.i64 5)], argTypes := #[3, 3] }, type := 3, pos := "ref.go:334", after := #[dD 2], guard := none }
abbrev kBentM_24 : Oper := { dst := some 49, op := Op.binOp BinOp.add 3 (Operand.tmp 46) (Operand.tmp 48) 3, type := 3, pos := "ref.go:334", after := #[dD 1, dD 3], guard := none }
abbrev kBentM_25 : Oper := { dst := some 50, op := Op.binOp BinOp.sub 3 (Operand.tmp 49) (Operand.const (Value.int IntKind.i64 2)) 3, type := 3, pos := "ref.go:334", after := #[dD 4], guard := none }
abbrev kBentM_26 : Oper := { dst := some 51, op := Op.fieldAddr 54 (Operand.tmp 7) 0, type := 0, pos := "ref.go:334", after := #[dP 0, dP 1, dP 2, dP 3, dP 4, dP 5], guard := none }
abbrev kBentM_27 : Oper := { dst := none, op := Op.store 3 (Operand.tmp 51) (Operand.tmp 50), type := 0, pos := "ref.go:334", after := #[dD 6, dD 5, dC 3, dP 0, dP 1, dP 2, dP 3, dP 4, dP 5], guard := none }
abbrev kBentM_28 : Oper := { dst := some 55, op := Op.load 3 (Operand.tmp 54), type := 3, pos := "ref.go:336", after := #[dD 0], guard := none }
abbrev kBentM_29 : Oper := { dst := some 57, op := Op.call { callee := Callee.value (Operand.func 17), args := #[Operand.tmp 56, Operand.const (Value.int IntKind.i64 5)], argTypes := #[3, 3] }, type := 3, pos := "ref.go:336", after := #[dD 2], guard := none }
abbrev kBentM_30 : Oper := { dst := some 58, op := Op.binOp BinOp.add 3 (Operand.tmp 55) (Operand.tmp 57) 3, type := 3, pos := "ref.go:336", after := #[dD 1, dD 3], guard := none }
abbrev kBentM_31 : Oper := { dst := some 59, op := Op.binOp BinOp.sub 3 (Operand.tmp 58) (Operand.const (Value.int IntKind.i64 2)) 3, type := 3, pos := "ref.go:336", after := #[dD 4], guard := none }
abbrev kBentM_32 : Oper := { dst := some 60, op := Op.fieldAddr 54 (Operand.tmp 7) 1, type := 0, pos := "ref.go:336", after := #[dP 0, dP 1, dP 2, dP 3, dP 4, dP 5], guard := none }
abbrev kBentM_33 : Oper := { dst := none, op := Op.store 3 (Operand.tmp 60) (Operand.tmp 59), type := 0, pos := "ref.go:336", after := #[dD 6, dD 5, dC 3, dP 0, dP 1, dP 2, dP 3, dP 4, dP 5], guard := none }
abbrev kBentM_34 : Oper := { dst := some 159, op := Op.load 48 (Operand.tmp 158), type := 48, pos := "ref.go:361", after := #[dD 0], guard := none }
abbrev kBentM_35 : Oper := { dst := some 163, op := Op.load 48 (Operand.tmp 162), type := 48, pos := "ref.go:361", after := #[dD 4], guard := none }
abbrev kBentM_36 : Oper := { dst := some 161, op := Op.slice 48 (Operand.tmp 159) none (some (Operand.tmp 160)) none, type := 48, pos := "ref.go:361", after := #[dD 1, dD 2], guard := none }
abbrev kBentM_37 : Oper := { dst := some 166, op := Op.slice 48 (Operand.tmp 163) (some (Operand.tmp 165)) none none, type := 48, pos := "ref.go:361", after := #[dD 5, dD 7], guard := none }
abbrev kBentM_38 : Oper := { dst := some 167, op := Op.call { callee := Callee.builtin Builtin.append, args := #[Operand.tmp 161, Operand.tmp 166], argTypes := #[48, 48] }, type := 48, pos := "ref.go:361", after := #[dD 3, dD 8], guard := none }
abbrev kBentM_39 : Oper := { dst := some 168, op := Op.fieldAddr 54 (Operand.tmp 7) 3, type := 0, pos := "ref.go:361", after := #[dP 0, dP 1, dP 2, dP 3, dP 4, dP 5, dP 6, dP 7, dP 8, dP 9], guard := none }
abbrev kBentM_40 : Oper := { dst := none, op := Op.store 48 (Operand.tmp 168) (Operand.tmp 167), type := 0, pos := "ref.go:361", after := #[dD 10, dD 9, dC 9, dP 0, dP 1, dP 2, dP 3, dP 4, dP 5, dP 6, dP 7, dP 8, dP 9], guard := none }
theorem wp_append_digs {w : World} {o : Oper} {a : Act} {K : Act → World → Prop} {Q : Exit → Act → World → Prop} (s x : Operand)
  (ho : o.op = .call { callee := .builtin .append, args := #[s, x], argTypes := #[48, 48] })
  (base : Nat) (v : Value) (n : Nat) (xs : List Value) (hs : a.eval s = v) (hown : w.ownsRow base 29 16 v n xs)
  (A : Option Addr) (m c B : Nat) (news : List (List UInt8)) (hx : a.eval x = .slice A m c) (hnil : A = none → c = 0) (hl : news.length = m) (h16 : ∀ d ∈ news, d.length = 16) (hr : Rd w B A (B8 news.flatten))
  (hbytes : n + m ≤ 4294967296) (hbase : base ≤ w.heap.size)
  (h : ∀ v' w', w'.ownsRow base 29 16 v' (n + m) (xs ++ B8 news.flatten) → w.grownBy w' v.ownBlock → K (a.put o.dst v') w') : o.wp Tryd.prog a w K Q := by
 obtain ⟨i0, hi0, hz0, hz1, hz2⟩ := info_parts info29
 have hlen : (B8 news.flatten).length = m * 16 := by rw [B8_len, List.length_flatten, sum16 news h16, hl]
 by_cases hne : B8 news.flatten = []
 ·
  have hm : m = 0 := by rw [hne] at hlen; simp at hlen; omega
  subst hm
  cases A with
  | none =>
   have hc := hnil rfl
   subst hc
   refine Lib.wp_append_run w s x 48 48 ho v _ hs hx v w (run_append_owned_none w base 48 _ 29 i0 16 Tryd.underlying48 hi0 v n xs hown) (h v w ?_ (World.grownBy.refl _ _))
   rw [hne, List.append_nil, Nat.add_zero]; exact hown
  | some ad =>
   exact wp_append_own w s x 48 ho base 29 i0 (.agg Z16.toArray) 16 16 Tryd.underlying48 hi0 hz0 hz1 hz2 rfl (by decide) v n xs hs hown ad 0 c (B8 news.flatten) hx (by rw [hne]; rfl) (fun j u hu => by rw [hne] at hu; simp at hu) (B8_one _) (by unfold maxLen; omega) (by omega) hbase (fun v' w' h1 h2 _ => h v' w' h1 h2)
 ·
  obtain ⟨g, off, rfl, hg, hcell⟩ := hr hne
  exact wp_append_own w s x 48 ho base 29 i0 (.agg Z16.toArray) 16 16 Tryd.underlying48 hi0 hz0 hz1 hz2 rfl (by decide) v n xs hs hown ⟨g, off, none⟩ m c (B8 news.flatten) hx hlen (fun j u hu => by rw [Addr.add_lit]; exact hcell j u hu) (B8_one _) (by unfold maxLen; omega) (by omega) hbase (fun v' w' h1 h2 _ => h v' w' h1 h2)
theorem own_at {W : World} {B e size n k : Nat} {v : Value} {xs : List Value} (h : W.ownsRow B e size v n xs) (hk : v.ownBlock = some k) : ∃ cur, W.heap[k]? = some (.cells cur e (0, 0)) := by
 rcases h.2 with ⟨rfl, _⟩ | ⟨g, cap, cur, rfl, _, hg, _⟩
 ·
  simp [Value.ownBlock] at hk
 ·
  have : g = k := by simpa [Value.ownBlock] using hk
  subst this; exact ⟨cur, hg⟩
theorem own_typed {W : World} {B e size n g : Nat} {t : TypeId} {v : Value} {xs cs : List Value} (h : W.ownsRow B e size v n xs) (hb : Blk W g t cs) (hne : e ≠ t) : v.ownBlock ≠ some g := fun hk => by
 obtain ⟨cur, hg⟩ := own_at h hk
 unfold Blk at hb
 rw [hb] at hg
 simp only [Option.some.injEq, Obj.cells.injEq] at hg
 exact hne hg.2.1.symm
theorem own_other {W W' : World} {B B' e e' size size' n n' : Nat} {v u : Value} {xs ys : List Value} (h : W.ownsRow B e size v n xs) (ho : W.ownsRow B' e' size' u n' ys) (hg : W.grownBy W' u.ownBlock) (hne : e ≠ e') : W'.ownsRow B e size v n xs :=
 row_keep h (fun k hk hv => hg.block k hk (fun e1 => by
  obtain ⟨c1, h1⟩ := own_at h hv
  obtain ⟨c2, h2⟩ := own_at ho e1.symm
  rw [h1] at h2
  simp only [Option.some.injEq, Obj.cells.injEq] at h2
  exact hne h2.2.1))
theorem blk_other {W W' : World} {B' e' size' n' g : Nat} {t : TypeId} {u : Value} {cs ys : List Value} (h : Blk W g t cs) (ho : W.ownsRow B' e' size' u n' ys) (hg : W.grownBy W' u.ownBlock) (hne : t ≠ e') : Blk W' g t cs :=
 h.grown hg (fun e1 => own_typed ho h (fun e => hne e.symm) e1.symm)
theorem below_app' {w W W' : World} {e size n : Nat} {v : Value} {xs : List Value} (hb : Below w.heap.size w W) (ho : W.ownsRow w.heap.size e size v n xs) (hg : W.grownBy W' v.ownBlock) : Below w.heap.size w W' := below_app hb ho hg
theorem own_nil (e size : Nat) (W : World) (B : Nat) (hB : B ≤ W.heap.size) : (W.alloc (.cells #[] e)).ownsRow B e size (.slice (some ⟨W.heap.size, 0, none⟩) 0 0) 0 [] := by
 have := World.ownsRow_lit (base := B) (e := e) (size := size) W #[] 0 hB (by decide) (by simp)
 simpa using this
structure BQ (w : World) (f sz : Int) (L : List Lf) (S : List (List UInt8)) (n m gq : Nat) (A1 : Option Addr) (c1 : Nat) (A2 : Option Addr) (c2 : Nat) (W : World) : Prop where
 z : Blk W (w.heap.size + 1) 54 ZP
 q : Blk W gq 54 (PR f sz (.slice A1 n c1) (.slice A2 m c2))
 l : W.ownsRow (w.heap.size + 2) 87 2 (.slice A1 n c1) n (LC L)
 s : W.ownsRow (w.heap.size + 2) 29 16 (.slice A2 m c2) m (B8 S.flatten)
 b : Below w.heap.size w W
 g : w.heap.size + 2 ≤ gq
theorem BQ.below {w W W' : World} {f sz : Int} {L : List Lf} {S : List (List UInt8)} {n m gq c1 c2 : Nat} {A1 A2 : Option Addr} (h : BQ w f sz L S n m gq A1 c1 A2 c2 W) (hb : Below W.heap.size W W') : BQ w f sz L S n m gq A1 c1 A2 c2 W' :=
 ⟨h.z.below hb h.z.lt, h.q.below hb h.q.lt, own_below h.l hb, own_below h.s hb, h.b.trans (hb.mono h.b.size), h.g⟩
theorem own_frozen {W : World} {B e size n c g i : Nat} {xs : List Value} (h : W.ownsRow B e size (.slice (some ⟨g, 0, none⟩) n c) n xs) : W.frozen? ⟨g, i, none⟩ = false := by
 obtain ⟨cur, hg⟩ := own_at h (k := g) rfl
 simp [World.frozen?, hg]
theorem own_far {W : World} {B e size n c g gq : Nat} {t : TypeId} {xs cs : List Value} (h : W.ownsRow B e size (.slice (some ⟨g, 0, none⟩) n c) n xs) (hb : Blk W gq t cs) (hne : e ≠ t := by decide) : gq ≠ g := fun e1 => own_typed h hb hne (by rw [e1]; rfl)
theorem own_cellAt {W : World} {B e size n c g j : Nat} {xs : List Value} {u : Value} (h : W.ownsRow B e size (.slice (some ⟨g, 0, none⟩) n c) n xs) (hu : xs[j]? = some u) : W.cell? ⟨g, j, none⟩ = some u := by
 have := h.cells (g := g) rfl j u hu
 rw [Addr.add_lit, Nat.zero_add] at this
 exact this
theorem BQ.set1 {w W : World} {f sz : Int} {L L' : List Lf} {S : List (List UInt8)} {n m gq g1 c1 c2 i : Nat} {A2 : Option Addr} {u : Value} (h : BQ w f sz L S n m gq (some ⟨g1, 0, none⟩) c1 A2 c2 W) (hL : (LC L).set i u = LC L') :
  BQ w f sz L' S n m gq (some ⟨g1, 0, none⟩) c1 A2 c2 (W.setCell ⟨g1, i, none⟩ u) := by
 obtain ⟨h1, h2⟩ := h.l.stored i u
 have hz : w.heap.size + 1 ≠ g1 := own_far h.l h.z
 have hg1 : w.heap.size + 2 ≤ g1 := (h.l.lt g1 rfl).1
 exact ⟨h.z.far (p := ⟨g1, i, none⟩) hz _, h.q.far (p := ⟨g1, i, none⟩) (own_far h.l h.q) _, by rw [← hL]; exact h1, own_cell h.s (fun e => by
  obtain ⟨c1, e1⟩ := own_at h.s e
  obtain ⟨c2, e2⟩ := own_at h.l (k := g1) rfl
  rw [e1] at e2
  simp only [Option.some.injEq, Obj.cells.injEq] at e2
  exact absurd e2.2.1 (by decide)), h.b.setCell (p := ⟨g1, i, none⟩) (by show w.heap.size ≤ g1; omega) _, h.g⟩
theorem LC_set1 : ∀ (L : List Lf) (k : Nat) (h : k < L.length) (K : ByteArray), (LC L).set (k * 2) (.string K) = LC (L.set k (K, L[k].2))
 | x :: L, 0, _, K => rfl
 | x :: L, k + 1, h, K => by
  have := LC_set1 L k (by simpa using h) K
  rw [LC_cons, show (k + 1) * 2 = k * 2 + 1 + 1 by omega, List.set_cons_succ, List.set_cons_succ, this]
  rfl
theorem LC_set2 : ∀ (L : List Lf) (k : Nat) (h : k < L.length) (K : ByteArray), (LC L).set (k * 2 + 1) (.string K) = LC (L.set k (L[k].1, K))
 | x :: L, 0, _, K => rfl
 | x :: L, k + 1, h, K => by
  have := LC_set2 L k (by simpa using h) K
  rw [LC_cons, show (k + 1) * 2 + 1 = k * 2 + 1 + 1 + 1 by omega, List.set_cons_succ, List.set_cons_succ, this]
  rfl
theorem BQ.grow {w W W' : World} {f sz : Int} {L L' : List Lf} {S : List (List UInt8)} {n m gq c1 c2 n' c' k : Nat} {A1 A2 A' : Option Addr} {v : Value} {xs : List Value} (h : BQ w f sz L S n m gq A1 c1 A2 c2 W) (hp : W.ownsRow (w.heap.size + 2) 87 2 v k xs) (ho : W'.ownsRow (w.heap.size + 2) 87 2 (.slice A' n' c') n' (LC L')) (hg : W.grownBy W' v.ownBlock) :
  BQ w f sz L' S n' m gq A' c' A2 c2 (W'.setCell ⟨gq, 2, none⟩ (.slice A' n' c')) := by
 have hq := blk_other h.q hp hg (by decide)
 have hz := blk_other h.z hp hg (by decide)
 have hs := own_other h.s hp hg (by decide)
 have h1 := h.g
 refine ⟨hz.far (p := ⟨gq, 2, none⟩) (by show w.heap.size + 1 ≠ gq; omega) _, hq.put 2 _, own_cell ho (own_typed ho hq (by decide)), own_cell hs (own_typed hs hq (by decide)), (below_app' h.b (own_base hp (by omega)) hg).setCell (p := ⟨gq, 2, none⟩) (by show w.heap.size ≤ gq; omega) _, h.g⟩
theorem LC_takeN : ∀ (L : List Lf) (k : Nat), LC (L.take k) = (LC L).take (k * 2)
 | [], k => by simp [LC]
 | x :: L, 0 => rfl
 | x :: L, k + 1 => by
  rw [List.take_succ_cons, LC_cons, LC_cons, show (k + 1) * 2 = k * 2 + 1 + 1 by omega, List.take_succ_cons, List.take_succ_cons, LC_takeN L k]
theorem LC_dropN : ∀ (L : List Lf) (k : Nat), LC (L.drop k) = (LC L).drop (k * 2)
 | [], k => by simp [LC]
 | x :: L, 0 => rfl
 | x :: L, k + 1 => by
  rw [List.drop_succ_cons, LC_cons, show (k + 1) * 2 = k * 2 + 1 + 1 by omega, List.drop_succ_cons, List.drop_succ_cons, LC_dropN L k]
theorem own_cut {W : World} {B e g n c k : Nat} {L : List Lf} (h : W.ownsRow B e 2 (.slice (some ⟨g, 0, none⟩) n c) n (LC L)) (hk : k ≤ n) (hn : n = L.length) : W.ownsRow B e 2 (.slice (some ⟨g, 0, none⟩) k c) k (LC (L.take k)) := by
 rcases h.2 with ⟨h1, _⟩ | ⟨g', cap, cur, hv, hb, hg, hnc, hm, hsz, ht⟩
 ·
  cases h1
 ·
  cases hv
  refine ⟨by rw [LC_len, List.length_take]; omega, .inr ⟨g, c, cur, rfl, hb, hg, by omega, hm, hsz, ?_⟩⟩
  rw [LC_takeN, ← ht, List.take_take, Nat.min_eq_left (by omega)]
def TA (g k c : Nat) : Addr := if c = k then ⟨g, 0, none⟩ else ⟨g, k * 2, none⟩
theorem rd_tail {W : World} {B e g n c k : Nat} {L : List Lf} (hc : n ≤ c) (hn : n = L.length) (h : W.ownsRow B e 2 (.slice (some ⟨g, 0, none⟩) n c) n (LC L)) : Rd W W.heap.size (some (TA g k c)) (LC (L.drop k)) := by
 intro hne
 have hk : k < n := by
  rcases Nat.lt_or_ge k n with h1 | h1
  ·
   exact h1
  ·
   rw [List.drop_eq_nil_of_le (by omega)] at hne; exact absurd rfl hne
 refine ⟨g, k * 2, by unfold TA; rw [if_neg (by omega)], (h.lt g rfl).2, fun j u hu => ?_⟩
 rw [LC_dropN, List.getElem?_drop] at hu
 exact own_cellAt h hu
theorem slice24h (g n c k : Nat) (h : k ≤ c) (W : World) : (Instr.sliceAt 24 (.slice (some ⟨g, 0, none⟩) n c) none (some (.int .i64 (k : Int))) none).run Tryd.prog W = .ok (.slice (some ⟨g, 0, none⟩) k c) W := by
 have hu : Tryd.prog.underlying 24 = some (.slice (Tryd.prog.elem 24)) := by kernel_rfl
 have he : Tryd.prog.elem 24 = 87 := by kernel_rfl
 have h5 : (sizeOf 87).run Tryd.prog W = .ok 2 W := by kernel_rfl
 have hi : (if c = 0 then some (⟨g, 0, none⟩ : Addr) else (some (⟨g, 0, none⟩ : Addr)).map (·.add (0 * 2))) = some ⟨g, 0, none⟩ := by split <;> rfl
 rw [run_sliceAt_slice W 24 _ _ _ _ hu, run_slice_h W 24 _ n c hu .i64 k (by omega) (by omega), he, h5]
 simp only [Result.andThen, sliced, Int.toNat_natCast, Nat.sub_zero, hi]
theorem slice24l (g n c k : Nat) (h : k ≤ n) (W : World) : (Instr.sliceAt 24 (.slice (some ⟨g, 0, none⟩) n c) (some (.int .i64 (k : Int))) none none).run Tryd.prog W = .ok (.slice (some (TA g k c)) (n - k) (c - k)) W := by
 have hu : Tryd.prog.underlying 24 = some (.slice (Tryd.prog.elem 24)) := by kernel_rfl
 have he : Tryd.prog.elem 24 = 87 := by kernel_rfl
 have h5 : (sizeOf 87).run Tryd.prog W = .ok 2 W := by kernel_rfl
 have hi : (if c = k then some (⟨g, 0, none⟩ : Addr) else (some (⟨g, 0, none⟩ : Addr)).map (·.add (k * 2))) = some (TA g k c) := by
  unfold TA
  split
  ·
   rfl
  ·
   simp [Addr.add_lit]
 rw [run_sliceAt_slice W 24 _ _ _ _ hu, run_slice_l W 24 _ n c hu .i64 k (by omega) (by omega), he, h5]
 simp only [Result.andThen, sliced, Int.toNat_natCast, hi]
def BentC (w : World) (N N2 M gq : Nat) (W : World) : Prop :=
 ∃ (f sz : Int) (L : List Lf) (S : List (List UInt8)) (n m : Nat) (A1 : Option Addr) (c1 : Nat) (A2 : Option Addr) (c2 : Nat), BQ w f sz L S n m gq A1 c1 A2 c2 W ∧ n = L.length ∧ m = S.length ∧ (∀ d ∈ S, d.length = 16) ∧ n ≤ N + 1 ∧ m ≤ N2 + 1 ∧ (∀ x ∈ L, x.1.size ≤ M + 2 ∧ x.2.size ≤ M + 2) ∧ okInt f ∧ okInt sz
def BentP (w : World) (N N2 M : Nat) (e : Ending) (w' : World) : Prop :=
 ∃ (f sz : Int) (L : List Lf) (S : List (List UInt8)) (n m : Nat) (A1 : Option Addr) (c1 : Nat) (A2 : Option Addr) (c2 : Nat), e = .returned (.agg (PR f sz (.slice A1 n c1) (.slice A2 m c2)).toArray) ∧ w'.ownsRow (w.heap.size + 2) 87 2 (.slice A1 n c1) n (LC L) ∧ w'.ownsRow (w.heap.size + 2) 29 16 (.slice A2 m c2) m (B8 S.flatten) ∧ Below w.heap.size w w' ∧ n = L.length ∧ m = S.length ∧ (∀ d ∈ S, d.length = 16) ∧ n ≤ N + 1 ∧ m ≤ N2 + 1 ∧ (∀ x ∈ L, x.1.size ≤ M + 2 ∧ x.2.size ≤ M + 2) ∧ okInt f ∧ okInt sz
theorem set_sizes {L : List Lf} {M k : Nat} {u : Lf} (h : ∀ x ∈ L, x.1.size ≤ M ∧ x.2.size ≤ M) (hu : u.1.size ≤ M + 2 ∧ u.2.size ≤ M + 2) : ∀ x ∈ L.set k u, x.1.size ≤ M + 2 ∧ x.2.size ≤ M + 2 := fun x hx => by
 rcases List.mem_or_eq_of_mem_set hx with h1 | rfl
 ·
  have := h x h1; omega
 ·
  exact hu
theorem wrap_ok (x : Int) : okInt (IntKind.i64.wrap x) := by unfold okInt; rw [IntKind.wrap_i64]; omega
theorem BQ.setF {w W : World} {f sz : Int} {L : List Lf} {S : List (List UInt8)} {n m gq c1 c2 : Nat} {A1 A2 : Option Addr} (h : BQ w f sz L S n m gq A1 c1 A2 c2 W) (x : Int) : BQ w x sz L S n m gq A1 c1 A2 c2 (W.setCell ⟨gq, 0, none⟩ (.int .i64 x)) := by
 have h1 := h.g
 exact ⟨h.z.far (p := ⟨gq, 0, none⟩) (by show w.heap.size + 1 ≠ gq; omega) _, h.q.put 0 _, own_cell h.l (own_typed h.l h.q (by decide)), own_cell h.s (own_typed h.s h.q (by decide)), h.b.setCell (p := ⟨gq, 0, none⟩) (by show w.heap.size ≤ gq; omega) _, h.g⟩
theorem BQ.setZ {w W : World} {f sz : Int} {L : List Lf} {S : List (List UInt8)} {n m gq c1 c2 : Nat} {A1 A2 : Option Addr} (h : BQ w f sz L S n m gq A1 c1 A2 c2 W) (x : Int) : BQ w f x L S n m gq A1 c1 A2 c2 (W.setCell ⟨gq, 1, none⟩ (.int .i64 x)) := by
 have h1 := h.g
 exact ⟨h.z.far (p := ⟨gq, 1, none⟩) (by show w.heap.size + 1 ≠ gq; omega) _, h.q.put 1 _, own_cell h.l (own_typed h.l h.q (by decide)), own_cell h.s (own_typed h.s h.q (by decide)), h.b.setCell (p := ⟨gq, 1, none⟩) (by show w.heap.size ≤ gq; omega) _, h.g⟩
theorem flat_take : ∀ (S : List (List UInt8)) (k : Nat), (∀ d ∈ S, d.length = 16) → (S.take k).flatten = S.flatten.take (k * 16)
 | [], k, _ => by simp
 | x :: S, 0, _ => by simp
 | x :: S, k + 1, h => by
  have hx := h x (by simp)
  rw [List.take_succ_cons, List.flatten_cons, List.flatten_cons, List.take_append, hx, List.take_of_length_le (l := x) (by omega), flat_take S k (fun d hd => h d (by simp [hd])), show (k + 1) * 16 - 16 = k * 16 by omega]
theorem flat_drop : ∀ (S : List (List UInt8)) (k : Nat), (∀ d ∈ S, d.length = 16) → (S.drop k).flatten = S.flatten.drop (k * 16)
 | [], k, _ => by simp
 | x :: S, 0, _ => by simp
 | x :: S, k + 1, h => by
  have hx := h x (by simp)
  rw [List.drop_succ_cons, List.flatten_cons, List.drop_append, hx, show x.drop ((k + 1) * 16) = [] from List.drop_eq_nil_of_le (by omega), List.nil_append, flat_drop S k (fun d hd => h d (by simp [hd])), show (k + 1) * 16 - 16 = k * 16 by omega]
theorem flat_len (S : List (List UInt8)) (h : ∀ d ∈ S, d.length = 16) : S.flatten.length = S.length * 16 := by rw [List.length_flatten, sum16 S h]
theorem own_cutS {W : World} {B e g n c k : Nat} {S : List (List UInt8)} (h : W.ownsRow B e 16 (.slice (some ⟨g, 0, none⟩) n c) n (B8 S.flatten)) (h16 : ∀ d ∈ S, d.length = 16) (hk : k ≤ n) (hn : n = S.length) : W.ownsRow B e 16 (.slice (some ⟨g, 0, none⟩) k c) k (B8 (S.take k).flatten) := by
 rcases h.2 with ⟨h1, _⟩ | ⟨g', cap, cur, hv, hb, hg, hnc, hm, hsz, ht⟩
 ·
  cases h1
 ·
  cases hv
  have hft := flat_take S k h16
  have hfl := flat_len S h16
  refine ⟨by rw [B8_len, hft, List.length_take]; omega, .inr ⟨g, c, cur, rfl, hb, hg, by omega, hm, hsz, ?_⟩⟩
  rw [hft, show B8 (S.flatten.take (k * 16)) = (B8 S.flatten).take (k * 16) by simp [B8, List.map_take], ← ht, List.take_take, Nat.min_eq_left (by omega)]
def TS (g k c : Nat) : Addr := if c = k then ⟨g, 0, none⟩ else ⟨g, k * 16, none⟩
theorem rd_tailS {W : World} {B e g n c k : Nat} {S : List (List UInt8)} (h16 : ∀ d ∈ S, d.length = 16) (hc : n ≤ c) (hn : n = S.length) (h : W.ownsRow B e 16 (.slice (some ⟨g, 0, none⟩) n c) n (B8 S.flatten)) : Rd W W.heap.size (some (TS g k c)) (B8 (S.drop k).flatten) := by
 intro hne
 have hk : k < n := by
  rcases Nat.lt_or_ge k n with h1 | h1
  ·
   exact h1
  ·
   rw [List.drop_eq_nil_of_le (by omega)] at hne; exact absurd rfl hne
 refine ⟨g, k * 16, by unfold TS; rw [if_neg (by omega)], (h.lt g rfl).2, fun j u hu => ?_⟩
 rw [flat_drop S k h16, show B8 (S.flatten.drop (k * 16)) = (B8 S.flatten).drop (k * 16) by simp [B8, List.map_drop], List.getElem?_drop] at hu
 exact own_cellAt h hu
theorem slice48h (g n c k : Nat) (h : k ≤ c) (W : World) : (Instr.sliceAt 48 (.slice (some ⟨g, 0, none⟩) n c) none (some (.int .i64 (k : Int))) none).run Tryd.prog W = .ok (.slice (some ⟨g, 0, none⟩) k c) W := by
 have hu : Tryd.prog.underlying 48 = some (.slice (Tryd.prog.elem 48)) := by kernel_rfl
 have he : Tryd.prog.elem 48 = 29 := by kernel_rfl
 have h5 : (sizeOf 29).run Tryd.prog W = .ok 16 W := by kernel_rfl
 have hi : (if c = 0 then some (⟨g, 0, none⟩ : Addr) else (some (⟨g, 0, none⟩ : Addr)).map (·.add (0 * 16))) = some ⟨g, 0, none⟩ := by split <;> rfl
 rw [run_sliceAt_slice W 48 _ _ _ _ hu, run_slice_h W 48 _ n c hu .i64 k (by omega) (by omega), he, h5]
 simp only [Result.andThen, sliced, Int.toNat_natCast, Nat.sub_zero, hi]
theorem slice48l (g n c k : Nat) (h : k ≤ n) (W : World) : (Instr.sliceAt 48 (.slice (some ⟨g, 0, none⟩) n c) (some (.int .i64 (k : Int))) none none).run Tryd.prog W = .ok (.slice (some (TS g k c)) (n - k) (c - k)) W := by
 have hu : Tryd.prog.underlying 48 = some (.slice (Tryd.prog.elem 48)) := by kernel_rfl
 have he : Tryd.prog.elem 48 = 29 := by kernel_rfl
 have h5 : (sizeOf 29).run Tryd.prog W = .ok 16 W := by kernel_rfl
 have hi : (if c = k then some (⟨g, 0, none⟩ : Addr) else (some (⟨g, 0, none⟩ : Addr)).map (·.add (k * 16))) = some (TS g k c) := by
  unfold TS
  split
  ·
   rfl
  ·
   simp [Addr.add_lit]
 rw [run_sliceAt_slice W 48 _ _ _ _ hu, run_slice_l W 48 _ n c hu .i64 k (by omega) (by omega), he, h5]
 simp only [Result.andThen, sliced, Int.toNat_natCast, hi]
theorem BQ.growS {w W W' : World} {f sz : Int} {L : List Lf} {S S' : List (List UInt8)} {n m gq c1 c2 m' c' k : Nat} {A1 A2 A' : Option Addr} {v : Value} {xs : List Value} (h : BQ w f sz L S n m gq A1 c1 A2 c2 W) (hp : W.ownsRow (w.heap.size + 2) 29 16 v k xs) (ho : W'.ownsRow (w.heap.size + 2) 29 16 (.slice A' m' c') m' (B8 S'.flatten)) (hg : W.grownBy W' v.ownBlock) :
  BQ w f sz L S' n m' gq A1 c1 A' c' (W'.setCell ⟨gq, 3, none⟩ (.slice A' m' c')) := by
 have hq := blk_other h.q hp hg (by decide)
 have hz := blk_other h.z hp hg (by decide)
 have hl := own_other h.l hp hg (by decide)
 have h1 := h.g
 refine ⟨hz.far (p := ⟨gq, 3, none⟩) (by show w.heap.size + 1 ≠ gq; omega) _, hq.put 3 _, own_cell hl (own_typed hl hq (by decide)), own_cell ho (own_typed ho hq (by decide)), (below_app' h.b (own_base hp (by omega)) hg).setCell (p := ⟨gq, 3, none⟩) (by show w.heap.size ≤ gq; omega) _, h.g⟩
theorem BQ.setS {w W : World} {f sz : Int} {L : List Lf} {S S' : List (List UInt8)} {n m gq g1 c1 c2 i : Nat} {A1 : Option Addr} {u : Value} (h : BQ w f sz L S n m gq A1 c1 (some ⟨g1, 0, none⟩) c2 W) (hS : (B8 S.flatten).set i u = B8 S'.flatten) :
  BQ w f sz L S' n m gq A1 c1 (some ⟨g1, 0, none⟩) c2 (W.setCell ⟨g1, i, none⟩ u) := by
 obtain ⟨h1, h2⟩ := h.s.stored i u
 have hz : w.heap.size + 1 ≠ g1 := own_far h.s h.z
 have hg1 : w.heap.size + 2 ≤ g1 := (h.s.lt g1 rfl).1
 exact ⟨h.z.far (p := ⟨g1, i, none⟩) hz _, h.q.far (p := ⟨g1, i, none⟩) (own_far h.s h.q) _, own_cell h.l (fun e => by
  obtain ⟨c1, e1⟩ := own_at h.l e
  obtain ⟨c2, e2⟩ := own_at h.s (k := g1) rfl
  rw [e1] at e2
  simp only [Option.some.injEq, Obj.cells.injEq] at e2
  exact absurd e2.2.1 (by decide)), by rw [← hS]; exact h1, h.b.setCell (p := ⟨g1, i, none⟩) (by show w.heap.size ≤ g1; omega) _, h.g⟩
theorem flat_at : ∀ (S : List (List UInt8)) (j a : Nat) (h : ∀ d ∈ S, d.length = 16) (hj : j < S.length) (ha : a < 16), S.flatten[j * 16 + a]? = (S[j]'hj)[a]?
 | x :: S, 0, a, h, hj, ha => by
  have hx := h x (by simp)
  rw [List.flatten_cons, Nat.zero_mul, Nat.zero_add, List.getElem?_append_left (by omega)]; rfl
 | x :: S, j + 1, a, h, hj, ha => by
  have hx := h x (by simp)
  rw [List.flatten_cons, List.getElem?_append_right (by omega), hx, show (j + 1) * 16 + a - 16 = j * 16 + a by omega, flat_at S j a (fun d hd => h d (by simp [hd])) (by simpa using hj) ha]; rfl
theorem flat_set : ∀ (S : List (List UInt8)) (j a : Nat) (y : UInt8) (h : ∀ d ∈ S, d.length = 16) (hj : j < S.length) (ha : a < 16), (S.set j ((S[j]'hj).set a y)).flatten = S.flatten.set (j * 16 + a) y
 | x :: S, 0, a, y, h, hj, ha => by
  have hx := h x (by simp)
  rw [List.flatten_cons, Nat.zero_mul, Nat.zero_add, List.set_append_left _ _ (by omega)]; rfl
 | x :: S, j + 1, a, y, h, hj, ha => by
  have hx := h x (by simp)
  rw [List.set_cons_succ, List.flatten_cons, List.flatten_cons, List.set_append_right _ _ (by omega), hx, show (j + 1) * 16 + a - 16 = j * 16 + a by omega, ← flat_set S j a y (fun d hd => h d (by simp [hd])) (by simpa using hj) ha]; rfl
theorem xor_u8 (x : UInt8) : ∃ y : UInt8, bits .xor .u8 (x.toNat : Int) 1 = (y.toNat : Int) := by
 refine ⟨UInt8.ofNat (BitVec.ofInt 8 (x.toNat : Int) ^^^ BitVec.ofInt 8 1).toNat, ?_⟩
 show IntKind.u8.wrap ((BitVec.ofInt 8 (x.toNat : Int) ^^^ BitVec.ofInt 8 1).toNat : Int) = _
 rw [IntKind.wrap_u8', UInt8.toNat_ofNat']
 omega
set_option maxHeartbeats 16000000 in
theorem bent_any (f sz : Int) (L : List Lf) (S : List (List UInt8)) (A1 A2 : Option Addr) (n m c1 c2 M : Nat) (hw q by_ : Int) (w : World) (hn : n = L.length) (hm : m = S.length) (hn4 : n ≤ 100000) (hm4 : m ≤ 100000) (hM : ∀ x ∈ L, x.1.size ≤ M ∧ x.2.size ≤ M) (hr1 : Rd w w.heap.size A1 (LC L)) (hr2 : Rd w w.heap.size A2 (B8 S.flatten)) (hnil1 : A1 = none → c1 = 0) (hnil2 : A2 = none → c2 = 0) (h16 : ∀ d ∈ S, d.length = 16) (hq : q = 4 ∨ q = 5 ∨ q = 6 ∨ q = 7 ∨ q = 0 ∨ q = 1 ∨ q = 3 ∨ q = 2 ∨ q = 9 ∨ q = 10 ∨ q = 8) (hqw : ar hw 11 = q) (hwk : okInt hw) (hby : okInt by_) (hf : okInt f) (hsz : okInt sz) (hMM : M ≤ 1073741824) :
  Calls Tryd.prog 28 #[.agg (PR f sz (.slice A1 n c1) (.slice A2 m c2)).toArray, .int .i64 hw, .int .i64 by_] w (BentP w n m M) := by
 have hZ := hZP
 have HLEN1 := Lh hn
 have HLEN2 := Lh hm
 have HNIL1 := Lh hnil1
 have HNIL2 := Lh hnil2
 have H16 := Lh h16
 have HM := Lh hM
 obtain ⟨W1, hW1⟩ : ∃ W, W = (w.alloc (.cells (PR f sz (.slice A1 n c1) (.slice A2 m c2)).toArray 54)).alloc (.cells ZP.toArray 54) := ⟨_, rfl⟩
 have hb1 : Below w.heap.size w W1 := by rw [hW1]; exact ((Below.refl _ _).alloc (Nat.le_refl _) _).alloc (by simp) _
 have B1 := Lh hb1
 have HS1 := Lh (show Blk W1 w.heap.size 54 (PR f sz (.slice A1 n c1) (.slice A2 m c2)) by rw [hW1]; exact (Blk.new w 54 _).alloc _)
 have Z1 := Lh (show Blk W1 (w.heap.size + 1) 54 ZP by rw [hW1]; exact Blk.newAt _ _ 54 ZP (by simp))
 have HSZ1 := Lh (show w.heap.size + 2 ≤ W1.heap.size by rw [hW1]; simp)
 have RL := Lh (show ∀ W, Below (World.drew W1).heap.size (World.drew W1) W → Rd W W.heap.size A1 (LC L) from fun W hb => (hr1.below (hb1.drew.trans (hb.mono hb1.size))).more (Nat.le_trans hb1.size hb.size))
 have RS' := Lh (show ∀ W, Below (World.drew W1).heap.size (World.drew W1) W → Rd W W.heap.size A2 (B8 S.flatten) from fun W hb => (hr2.below (hb1.drew.trans (hb.mono hb1.size))).more (Nat.le_trans hb1.size hb.size))
 obtain ⟨M1, hM1⟩ : ∃ k : Nat, (k : Int) = max (n : Int) 1 := ⟨max n 1, by omega⟩
 obtain ⟨M2, hM2⟩ : ∃ k : Nat, (k : Int) = max (m : Int) 1 := ⟨max m 1, by omega⟩
 obtain ⟨kx, hkx⟩ : ∃ k : Nat, ar by_ M1 = (k : Int) := ⟨(ar by_ M1).toNat, by have := (ar_bounds by_ M1 (by omega)).1; omega⟩
 obtain ⟨jx, hjx⟩ : ∃ k : Nat, ar by_ M2 = (k : Int) := ⟨(ar by_ M2).toNat, by have := (ar_bounds by_ M2 (by omega)).1; omega⟩
 have hkn : 0 < n → kx < n := fun h => by have := (ar_bounds by_ M1 (by omega)).2; omega
 have hjm : 0 < m → jx < m := fun h => by have := (ar_bounds by_ M2 (by omega)).2; omega
 have ars := fun (v m : Int) (W : World) (h1 : -9223372036854775808 ≤ v) (h2 : v < 9223372036854775808) (hm : 0 < m) (hm2 : m < 9223372036854775808) => (around_any v m h1 h2 hm hm2 W).mono fun e w' h => (⟨h.1, h.2.symm⟩ : e = .returned (.int .i64 (ar v m)) ∧ W = w')
 have HA1 := Lh (fun W => show Calls Tryd.prog 17 #[.int .i64 by_, .int .i64 (max (n : Int) 1)] W fun e w' => e = .returned (.int .i64 (kx : Int)) ∧ W = w' from by
  rw [← hM1, ← hkx]; exact ars by_ M1 W hby.1 (by have := hby.2; omega) (by omega) (by omega))
 have HA2 := Lh (fun W => show Calls Tryd.prog 17 #[.int .i64 by_, .int .i64 (max (m : Int) 1)] W fun e w' => e = .returned (.int .i64 (jx : Int)) ∧ W = w' from by
  rw [← hM2, ← hjx]; exact ars by_ M2 W hby.1 (by have := hby.2; omega) (by omega) (by omega))
 have HAQ := Lh (fun W => show Calls Tryd.prog 17 #[.int .i64 hw, .int .i64 11] W fun e w' => e = .returned (.int .i64 q) ∧ W = w' from by
  have := ars hw 11 W hwk.1 (by have := hwk.2; omega) (by decide) (by decide)
  rw [hqw] at this; exact this)
 obtain ⟨a40, ha40⟩ : ∃ k : Nat, ar by_ 40 = (k : Int) := ⟨(ar by_ 40).toNat, by have := (ar_bounds by_ 40 (by decide)).1; omega⟩
 have h40 : a40 < 40 := by have := (ar_bounds by_ 40 (by decide)).2; omega
 have HA40 := Lh (fun W => show Calls Tryd.prog 17 #[.int .i64 by_, .int .i64 40] W fun e w' => e = .returned (.int .i64 (a40 : Int)) ∧ W = w' from by
  rw [← ha40]; exact ars by_ 40 W hby.1 (by have := hby.2; omega) (by decide) (by decide))
 obtain ⟨a5, ha5⟩ : ∃ k : Nat, ar by_ 5 = (k : Int) := ⟨(ar by_ 5).toNat, by have := (ar_bounds by_ 5 (by decide)).1; omega⟩
 have h5 : a5 < 5 := by have := (ar_bounds by_ 5 (by decide)).2; omega
 have HA5 := Lh (fun W => show Calls Tryd.prog 17 #[.int .i64 by_, .int .i64 5] W fun e w' => e = .returned (.int .i64 (a5 : Int)) ∧ W = w' from by
  rw [← ha5]; exact ars by_ 5 W hby.1 (by have := hby.2; omega) (by decide) (by decide))
 obtain ⟨a4, ha4⟩ : ∃ k : Nat, ar by_ 4 = (k : Int) := ⟨(ar by_ 4).toNat, by have := (ar_bounds by_ 4 (by decide)).1; omega⟩
 have h4 : a4 < 4 := by have := (ar_bounds by_ 4 (by decide)).2; omega
 have HA4 := Lh (fun W => show Calls Tryd.prog 17 #[.int .i64 by_, .int .i64 4] W fun e w' => e = .returned (.int .i64 (a4 : Int)) ∧ W = w' from by
  rw [← ha4]; exact ars by_ 4 W hby.1 (by have := hby.2; omega) (by decide) (by decide))
 have HBY := Lh hby
 clear ha5 ha4
 obtain ⟨b8, hb8⟩ : ∃ b, b = by_.tdiv 8 := ⟨_, rfl⟩
 have hb8o : -9223372036854775808 ≤ b8 ∧ b8 < 9223372036854775808 := by
  have h1 := hby.1; have h2 := hby.2
  rw [hb8]
  rcases Int.lt_or_le by_ 0 with h | h
  ·
   have e : by_.tdiv 8 = -((-by_).tdiv 8) := by rw [← Int.neg_tdiv, Int.neg_neg]
   rw [e, Int.tdiv_eq_ediv_of_nonneg (by omega)]; omega
  ·
   rw [Int.tdiv_eq_ediv_of_nonneg h]; omega
 have HB8 := Lh (show IntKind.i64.wrap (by_.tdiv 8) = b8 from by rw [IntWalk.i64_quo' by_ 8 ⟨hby.1, hby.2, by decide⟩, hb8])
 obtain ⟨a16, ha16⟩ : ∃ k : Nat, ar b8 16 = (k : Int) := ⟨(ar b8 16).toNat, by have := (ar_bounds b8 16 (by decide)).1; omega⟩
 have h16l : a16 < 16 := by have := (ar_bounds b8 16 (by decide)).2; omega
 have HA16 := Lh (fun W => show Calls Tryd.prog 17 #[.int .i64 b8, .int .i64 16] W fun e w' => e = .returned (.int .i64 (a16 : Int)) ∧ W = w' from by
  rw [← ha16]; exact ars b8 16 W hb8o.1 hb8o.2 (by decide) (by decide))
 have h16lI : (a16 : Int) < 16 := by omega
 clear hb8 hb8o ha16
 obtain ⟨KK, hKK⟩ : ∃ K, K = bs (KB a40) := ⟨_, rfl⟩
 have HKEY := Lh (fun W => show Calls Tryd.prog 49 #[.int .i64 (a40 : Int)] W fun e w' => e = .returned (.string KK) ∧ Below W.heap.size W w' from by rw [hKK]; exact key_any a40 (by omega) W)
 have HKS := Lh (show KK.size ≤ 2 by rw [hKK]; exact key_size a40)
 have HW1 := Lh hW1
 have HQ := Lh hq
 have HF := Lh hf
 have HSZI := Lh hsz
 clear hqw hwk
 clear hn hm hM hr1 hr2 hnil1 hnil2 h16 hW1 hb1 hM1 hM2 hkx hjx ars ha40 hKK hby hq hf hsz
 go_enter Tryd.func28, Tryd.ntmps28
 go_upto_region 1 with fail
 first | rw [← HW1.out] | (have hw := HW1.out; simp only [PR] at hw; rw [← hw])
 go_cut [7] (fun s7 wx => ∃ gq P1 d1 P2 d2, s7 = .pointer (some ⟨gq, 0, none⟩) ∧ Hid (BQ w f sz L S n m gq P1 d1 P2 d2 wx))
 case first =>
  as_aux_lemma =>
   refine wp_region_held (S := fun W => Blk W w.heap.size 54 (PR f sz (.slice A1 n c1) (.slice A2 m c2))) (by kernel_rfl) ?_
   change wpAnyH _ _ _ _ _ _ _ _ (World.drew W1)
   have hs0 : Blk (World.drew W1) w.heap.size 54 (PR f sz (.slice A1 n c1) (.slice A2 m c2)) := HS1.out
   have BD := Lh B1.out.drew
   have Z0 := Lh (show Blk (World.drew W1) (w.heap.size + 1) 54 ZP from Z1.out)
   have HSZ := Lh (show w.heap.size + 2 ≤ (World.drew W1).heap.size from HSZ1.out)
   generalize World.drew W1 = Wd at hs0 BD Z0 HSZ RL RS' ⊢
   have k0 := Lh (Below.refl Wd.heap.size Wd)
   refine tkH 0 ({ dst := some 10, op := Op.fieldAddr 54 (Operand.tmp 3) 0, type := 0, pos := "ref.go:329", after := #[], guard := none }) (.pointer (some ⟨w.heap.size, 0, none⟩)) hs0 (fun W hW => ?y1) ?_
   case y1 => go_simp
   try simp only [zp, zn, z1, z2, z3]
   refine tkH 1 ({ dst := some 11, op := Op.load 3 (Operand.tmp 10), type := 3, pos := "ref.go:329", after := #[dD 0], guard := none }) (.int .i64 f) hs0 (fun W hW => by have hcl : W.cell? ⟨w.heap.size, 0, none⟩ = _ := hW.cell 0; simp only [PR, List.getElem?_cons_zero] at hcl; go_simp) ?_
   try simp only [zp, zn, z1, z2, z3]
   refine tkH 2 ({ dst := some 12, op := Op.fieldAddr 54 (Operand.tmp 3) 1, type := 0, pos := "ref.go:329", after := #[], guard := none }) (.pointer (some ⟨w.heap.size, 1, none⟩)) hs0 (fun W hW => ?y3) ?_
   case y3 => go_simp
   try simp only [zp, zn, z1, z2, z3]
   refine tkH 3 ({ dst := some 13, op := Op.load 3 (Operand.tmp 12), type := 3, pos := "ref.go:329", after := #[dD 2], guard := none }) (.int .i64 sz) hs0 (fun W hW => by have hcl : W.cell? ⟨w.heap.size, 1, none⟩ = _ := hW.cell 1; simp only [PR, List.getElem?_cons_zero, List.getElem?_cons_succ] at hcl; go_simp) ?_
   try simp only [zp, zn, z1, z2, z3]
   refine tkH 5 ({ dst := some 15, op := Op.fieldAddr 54 (Operand.tmp 3) 2, type := 0, pos := "ref.go:329", after := #[], guard := none }) (.pointer (some ⟨w.heap.size, 2, none⟩)) hs0 (fun W hW => ?y5) ?_
   case y5 => go_simp
   try simp only [zp, zn, z1, z2, z3]
   refine tkH 6 ({ dst := some 16, op := Op.load 24 (Operand.tmp 15), type := 24, pos := "ref.go:329", after := #[dD 5], guard := none }) (.slice A1 n c1) hs0 (fun W hW => by have hcl : W.cell? ⟨w.heap.size, 2, none⟩ = _ := hW.cell 2; simp only [PR, List.getElem?_cons_zero, List.getElem?_cons_succ] at hcl; go_simp) ?_
   try simp only [zp, zn, z1, z2, z3]
   refine tkH 9 ({ dst := some 19, op := Op.fieldAddr 54 (Operand.tmp 3) 3, type := 0, pos := "ref.go:329", after := #[], guard := none }) (.pointer (some ⟨w.heap.size, 3, none⟩)) hs0 (fun W hW => ?y7) ?_
   case y7 => go_simp
   try simp only [zp, zn, z1, z2, z3]
   refine tkH 10 ({ dst := some 20, op := Op.load 48 (Operand.tmp 19), type := 48, pos := "ref.go:329", after := #[dD 9], guard := none }) (.slice A2 m c2) hs0 (fun W hW => by have hcl : W.cell? ⟨w.heap.size, 3, none⟩ = _ := hW.cell 3; simp only [PR, List.getElem?_cons_zero, List.getElem?_cons_succ] at hcl; go_simp) ?_
   try simp only [zp, zn, z1, z2, z3]
   refine wpAnyH_ready (rs := [4, 8, 13]) (by kernel_rfl) (by simp) ?_
   refine AllReadyH.cons (o := kBentM_0) rfl (fun K hK => ?_) (AllReadyH.cons (o := kBentM_1) rfl (fun K hK => ?_) (AllReadyH.cons (o := kBentM_2) rfl (fun K hK => ?_) AllReadyH.nil))
   ·
    rw [if_pos (by rfl)]
    have hbt := (Below.refl Wd.heap.size Wd).alloc (Nat.le_refl _) (.cells #[] 87)
    have k9 := Lh (k0.out.trans (hbt.mono k0.out.size))
    have hs10 := hs0.below k9.out hs0.lt
    have o11 := Lh (own_nil 87 2 Wd Wd.heap.size k0.out.size)
    clear hbt
    go_simp
    generalize (Wd.alloc (.cells #[] 87)) = u12 at k9 hs10 o11 ⊢
    refine hK.out _ _ hs10 (fun _ => ?_)
    clear hK K
    try simp only [zp, zn, z1, z2, z3]
    refine wpAnyH_ready (rs := [7, 8, 13]) (by kernel_rfl) (by simp) ?_
    refine AllReadyH.cons (o := kBentM_3) rfl (fun K hK => ?_) (AllReadyH.cons (o := kBentM_1) rfl (fun K hK => ?_) (AllReadyH.cons (o := kBentM_2) rfl (fun K hK => ?_) AllReadyH.nil))
    ·
     rw [if_pos (by rfl)]
     refine wp_append_leaves (T := 24) (e := 87) (by kernel_rfl) info87 (.tmp 14) (.tmp 16) rfl Wd.heap.size _ 0 [] rfl o11.out A1 n c1 _ L rfl HNIL1.out HLEN1.out.symm (RL.out _ k9.out) (by omega) k9.out.size ?_
     intro v13 w14 ho hg
     have k18 := Lh (below_app' k9.out o11.out hg)
     have hs19 := hs0.below k18.out hs0.lt
     rw [Nat.zero_add, List.nil_append] at ho
     have o17 := Lh ho
     obtain ⟨P15, p16, rfl, _, _, _⟩ := own_form ho
     clear ho hg
     refine hK.out _ _ hs19 (fun _ => ?_)
     clear hK K
     try simp only [zp, zn, z1, z2, z3]
     refine wpAnyH_ready (rs := [8, 13]) (by kernel_rfl) (by simp) ?_
     refine AllReadyH.cons (o := kBentM_1) rfl (fun K hK => ?_) (AllReadyH.cons (o := kBentM_2) rfl (fun K hK => ?_) AllReadyH.nil)
     ·
      rw [if_pos (by rfl)]
      have hbt := (Below.refl w14.heap.size w14).alloc (Nat.le_refl _) (.cells #[] 29)
      have k20 := Lh (k18.out.trans (hbt.mono k18.out.size))
      have hs21 := hs0.below k20.out hs0.lt
      have o22 := Lh (own_below o17.out hbt)
      have o23 := Lh (own_nil 29 16 w14 Wd.heap.size k18.out.size)
      clear hbt
      go_simp
      generalize (w14.alloc (.cells #[] 29)) = u24 at k20 hs21 o22 o23 ⊢
      refine hK.out _ _ hs21 (fun _ => ?_)
      clear hK K
      try simp only [zp, zn, z1, z2, z3]
      refine wpAnyH_ready (rs := [11, 13]) (by kernel_rfl) (by simp) ?_
      refine AllReadyH.cons (o := kBentM_4) rfl (fun K hK => ?_) (AllReadyH.cons (o := kBentM_2) rfl (fun K hK => ?_) AllReadyH.nil)
      ·
       rw [if_pos (by rfl)]
       refine wp_append_digs (.tmp 18) (.tmp 20) rfl Wd.heap.size _ 0 [] rfl o23.out A2 m c2 _ S rfl HNIL2.out HLEN2.out.symm H16.out (RS'.out _ k20.out) (by omega) k20.out.size ?_
       intro v25 w26 ho hg
       have k30 := Lh (below_app' k20.out o23.out hg)
       have hs31 := hs0.below k30.out hs0.lt
       have o32 := Lh (own_other o22.out o23.out hg (by decide))
       rw [Nat.zero_add, List.nil_append] at ho
       have o29 := Lh ho
       obtain ⟨Q27, q28, rfl, _, _, _⟩ := own_form ho
       clear ho hg
       refine hK.out _ _ hs31 (fun _ => ?_)
       clear hK K
       try simp only [zp, zn, z1, z2, z3]
       refine tkH 12 kBentM_5 (.agg (PR f sz (.slice P15 n p16) (.slice Q27 m q28)).toArray) hs31 (fun W hW => by clear hZ; go_simp; rfl) ?_
       try simp only [zp, zn, z1, z2, z3]
       refine wpAnyH_ready (rs := [13]) (by kernel_rfl) (by simp) ?_
       refine AllReadyH.cons (o := kBentM_2) rfl (fun K hK => ?_) AllReadyH.nil
       rw [if_pos (by rfl)]
       have hbt := (Below.refl w26.heap.size w26).alloc (Nat.le_refl _) (.cells ZP.toArray 54)
       have k34 := Lh (k30.out.trans (hbt.mono k30.out.size))
       have hs35 := hs0.below k34.out hs0.lt
       have o36 := Lh (own_below o32.out hbt)
       have o37 := Lh (own_below o29.out hbt)
       have o38 := Lh (Blk.new w26 54 ZP)
       have hgqo38 := Lh k30.out.size
       clear hbt
       go_simp
       generalize (w26.alloc (.cells ZP.toArray 54)) = u39 at k34 hs35 o36 o37 o38 hgqo38 ⊢
       refine hK.out _ _ hs35 (fun _ => ?_)
       clear hK K
       try simp only [zp, zn, z1, z2, z3]
       refine wpAnyH_ready (rs := [14]) (by kernel_rfl) (by simp) ?_
       refine AllReadyH.cons (o := kBentM_6) rfl (fun K hK => ?_) AllReadyH.nil
       rw [if_pos (by rfl)]
       have KE := Lh (show BQ w f sz L S n m w26.heap.size P15 p16 Q27 q28 (u39.setRow w26.heap.size (PR f sz (.slice P15 n p16) (.slice Q27 m q28)).toArray) from
        ⟨(Z0.out.below k34.out Z0.out.lt).setRow (by have := Z0.out.lt; have := hgqo38.out; omega) _, o38.out.row _, own_setRow (own_base o36.out HSZ.out) (own_typed o36.out o38.out (by decide)), own_setRow (own_base o37.out HSZ.out) (own_typed o37.out o38.out (by decide)), (belowRow (BD.out.trans (k34.out.mono BD.out.size)) (by have := BD.out.size; have := hgqo38.out; omega) _), by have := HSZ.out; have := hgqo38.out; omega⟩)
       have hs9 := hs35.setRow (show w.heap.size ≠ w26.heap.size by have := HSZ.out; have := hgqo38.out; omega) (PR f sz (.slice P15 n p16) (.slice Q27 m q28)).toArray
       refine wp_store_row 54 (.tmp 7) (.tmp 22) rfl (w26.heap.size) (PR f sz (.slice P15 n p16) (.slice Q27 m q28)).toArray rfl rfl 54 _ (show (u39).heap[w26.heap.size]? = _ from o38.out) (size54A _ _ _ _) (ZP_PR _ _ _ _) (PR_one _ _ _ _ _ _ _ _) ?_
       refine hK.out _ _ hs9 (fun _ => ?_)
       clear hK K
       try simp only [zp, zn, z1, z2, z3]
       refine wpAnyH_done (by kernel_rfl) ?_ _
       try simp only [zp, zn, z1, z2, z3]
       go_wp2_with fail
       go_meet
       exact ⟨w26.heap.size, P15, p16, Q27, q28, rfl, KE⟩
      ·
       rw [if_pos (by rfl)]
       have hbt := (Below.refl u24.heap.size u24).alloc (Nat.le_refl _) (.cells ZP.toArray 54)
       have k40 := Lh (k20.out.trans (hbt.mono k20.out.size))
       have hs41 := hs0.below k40.out hs0.lt
       have o42 := Lh (own_below o22.out hbt)
       have o43 := Lh (own_below o23.out hbt)
       have o44 := Lh (Blk.new u24 54 ZP)
       have hgqo44 := Lh k20.out.size
       clear hbt
       go_simp
       generalize (u24.alloc (.cells ZP.toArray 54)) = u45 at k40 hs41 o42 o43 o44 hgqo44 ⊢
       refine hK.out _ _ hs41 (fun _ => ?_)
       clear hK K
       try simp only [zp, zn, z1, z2, z3]
       refine wpAnyH_ready (rs := [11]) (by kernel_rfl) (by simp) ?_
       refine AllReadyH.cons (o := kBentM_4) rfl (fun K hK => ?_) AllReadyH.nil
       rw [if_pos (by rfl)]
       refine wp_append_digs (.tmp 18) (.tmp 20) rfl Wd.heap.size _ 0 [] rfl o43.out A2 m c2 _ S rfl HNIL2.out HLEN2.out.symm H16.out (RS'.out _ k40.out) (by omega) k40.out.size ?_
       intro v46 w47 ho hg
       have k51 := Lh (below_app' k40.out o43.out hg)
       have hs52 := hs0.below k51.out hs0.lt
       have o53 := Lh (own_other o42.out o43.out hg (by decide))
       have z54 := Lh (blk_other o44.out o43.out hg (by decide))
       rw [Nat.zero_add, List.nil_append] at ho
       have o50 := Lh ho
       obtain ⟨Q48, q49, rfl, _, _, _⟩ := own_form ho
       clear ho hg
       refine hK.out _ _ hs52 (fun _ => ?_)
       clear hK K
       try simp only [zp, zn, z1, z2, z3]
       refine tkH 12 kBentM_5 (.agg (PR f sz (.slice P15 n p16) (.slice Q48 m q49)).toArray) hs52 (fun W hW => by clear hZ; go_simp; rfl) ?_
       try simp only [zp, zn, z1, z2, z3]
       refine wpAnyH_ready (rs := [14]) (by kernel_rfl) (by simp) ?_
       refine AllReadyH.cons (o := kBentM_6) rfl (fun K hK => ?_) AllReadyH.nil
       rw [if_pos (by rfl)]
       have KE := Lh (show BQ w f sz L S n m u24.heap.size P15 p16 Q48 q49 (w47.setRow u24.heap.size (PR f sz (.slice P15 n p16) (.slice Q48 m q49)).toArray) from
        ⟨(Z0.out.below k51.out Z0.out.lt).setRow (by have := Z0.out.lt; have := hgqo44.out; omega) _, z54.out.row _, own_setRow (own_base o53.out HSZ.out) (own_typed o53.out z54.out (by decide)), own_setRow (own_base o50.out HSZ.out) (own_typed o50.out z54.out (by decide)), (belowRow (BD.out.trans (k51.out.mono BD.out.size)) (by have := BD.out.size; have := hgqo44.out; omega) _), by have := HSZ.out; have := hgqo44.out; omega⟩)
       have hs9 := hs52.setRow (show w.heap.size ≠ u24.heap.size by have := HSZ.out; have := hgqo44.out; omega) (PR f sz (.slice P15 n p16) (.slice Q48 m q49)).toArray
       refine wp_store_row 54 (.tmp 7) (.tmp 22) rfl (u24.heap.size) (PR f sz (.slice P15 n p16) (.slice Q48 m q49)).toArray rfl rfl 54 _ (show (w47).heap[u24.heap.size]? = _ from z54.out) (size54A _ _ _ _) (ZP_PR _ _ _ _) (PR_one _ _ _ _ _ _ _ _) ?_
       refine hK.out _ _ hs9 (fun _ => ?_)
       clear hK K
       try simp only [zp, zn, z1, z2, z3]
       refine wpAnyH_done (by kernel_rfl) ?_ _
       try simp only [zp, zn, z1, z2, z3]
       go_wp2_with fail
       go_meet
       exact ⟨u24.heap.size, P15, p16, Q48, q49, rfl, KE⟩
     ·
      rw [if_pos (by rfl)]
      have hbt := (Below.refl w14.heap.size w14).alloc (Nat.le_refl _) (.cells ZP.toArray 54)
      have k56 := Lh (k18.out.trans (hbt.mono k18.out.size))
      have hs57 := hs0.below k56.out hs0.lt
      have o58 := Lh (own_below o17.out hbt)
      have o59 := Lh (Blk.new w14 54 ZP)
      have hgqo59 := Lh k18.out.size
      clear hbt
      go_simp
      generalize (w14.alloc (.cells ZP.toArray 54)) = u60 at k56 hs57 o58 o59 hgqo59 ⊢
      refine hK.out _ _ hs57 (fun _ => ?_)
      clear hK K
      try simp only [zp, zn, z1, z2, z3]
      refine wpAnyH_ready (rs := [8]) (by kernel_rfl) (by simp) ?_
      refine AllReadyH.cons (o := kBentM_1) rfl (fun K hK => ?_) AllReadyH.nil
      rw [if_pos (by rfl)]
      have hbt := (Below.refl u60.heap.size u60).alloc (Nat.le_refl _) (.cells #[] 29)
      have k61 := Lh (k56.out.trans (hbt.mono k56.out.size))
      have hs62 := hs0.below k61.out hs0.lt
      have o63 := Lh (own_below o58.out hbt)
      have z64 := Lh (o59.out.below hbt o59.out.lt)
      have o65 := Lh (own_nil 29 16 u60 Wd.heap.size k56.out.size)
      clear hbt
      go_simp
      generalize (u60.alloc (.cells #[] 29)) = u66 at k61 hs62 o63 o65 z64 hgqo59 ⊢
      refine hK.out _ _ hs62 (fun _ => ?_)
      clear hK K
      try simp only [zp, zn, z1, z2, z3]
      refine wpAnyH_ready (rs := [11]) (by kernel_rfl) (by simp) ?_
      refine AllReadyH.cons (o := kBentM_4) rfl (fun K hK => ?_) AllReadyH.nil
      rw [if_pos (by rfl)]
      refine wp_append_digs (.tmp 18) (.tmp 20) rfl Wd.heap.size _ 0 [] rfl o65.out A2 m c2 _ S rfl HNIL2.out HLEN2.out.symm H16.out (RS'.out _ k61.out) (by omega) k61.out.size ?_
      intro v67 w68 ho hg
      have k72 := Lh (below_app' k61.out o65.out hg)
      have hs73 := hs0.below k72.out hs0.lt
      have o74 := Lh (own_other o63.out o65.out hg (by decide))
      have z75 := Lh (blk_other z64.out o65.out hg (by decide))
      rw [Nat.zero_add, List.nil_append] at ho
      have o71 := Lh ho
      obtain ⟨Q69, q70, rfl, _, _, _⟩ := own_form ho
      clear ho hg
      refine hK.out _ _ hs73 (fun _ => ?_)
      clear hK K
      try simp only [zp, zn, z1, z2, z3]
      refine tkH 12 kBentM_5 (.agg (PR f sz (.slice P15 n p16) (.slice Q69 m q70)).toArray) hs73 (fun W hW => by clear hZ; go_simp; rfl) ?_
      try simp only [zp, zn, z1, z2, z3]
      refine wpAnyH_ready (rs := [14]) (by kernel_rfl) (by simp) ?_
      refine AllReadyH.cons (o := kBentM_6) rfl (fun K hK => ?_) AllReadyH.nil
      rw [if_pos (by rfl)]
      have KE := Lh (show BQ w f sz L S n m w14.heap.size P15 p16 Q69 q70 (w68.setRow w14.heap.size (PR f sz (.slice P15 n p16) (.slice Q69 m q70)).toArray) from
       ⟨(Z0.out.below k72.out Z0.out.lt).setRow (by have := Z0.out.lt; have := hgqo59.out; omega) _, z75.out.row _, own_setRow (own_base o74.out HSZ.out) (own_typed o74.out z75.out (by decide)), own_setRow (own_base o71.out HSZ.out) (own_typed o71.out z75.out (by decide)), (belowRow (BD.out.trans (k72.out.mono BD.out.size)) (by have := BD.out.size; have := hgqo59.out; omega) _), by have := HSZ.out; have := hgqo59.out; omega⟩)
      have hs9 := hs73.setRow (show w.heap.size ≠ w14.heap.size by have := HSZ.out; have := hgqo59.out; omega) (PR f sz (.slice P15 n p16) (.slice Q69 m q70)).toArray
      refine wp_store_row 54 (.tmp 7) (.tmp 22) rfl (w14.heap.size) (PR f sz (.slice P15 n p16) (.slice Q69 m q70)).toArray rfl rfl 54 _ (show (w68).heap[w14.heap.size]? = _ from z75.out) (size54A _ _ _ _) (ZP_PR _ _ _ _) (PR_one _ _ _ _ _ _ _ _) ?_
      refine hK.out _ _ hs9 (fun _ => ?_)
      clear hK K
      try simp only [zp, zn, z1, z2, z3]
      refine wpAnyH_done (by kernel_rfl) ?_ _
      try simp only [zp, zn, z1, z2, z3]
      go_wp2_with fail
      go_meet
      exact ⟨w14.heap.size, P15, p16, Q69, q70, rfl, KE⟩
    ·
     rw [if_pos (by rfl)]
     have hbt := (Below.refl u12.heap.size u12).alloc (Nat.le_refl _) (.cells #[] 29)
     have k77 := Lh (k9.out.trans (hbt.mono k9.out.size))
     have hs78 := hs0.below k77.out hs0.lt
     have o79 := Lh (own_below o11.out hbt)
     have o80 := Lh (own_nil 29 16 u12 Wd.heap.size k9.out.size)
     clear hbt
     go_simp
     generalize (u12.alloc (.cells #[] 29)) = u81 at k77 hs78 o79 o80 ⊢
     refine hK.out _ _ hs78 (fun _ => ?_)
     clear hK K
     try simp only [zp, zn, z1, z2, z3]
     refine wpAnyH_ready (rs := [7, 13]) (by kernel_rfl) (by simp) ?_
     refine AllReadyH.cons (o := kBentM_3) rfl (fun K hK => ?_) (AllReadyH.cons (o := kBentM_2) rfl (fun K hK => ?_) AllReadyH.nil)
     ·
      rw [if_pos (by rfl)]
      refine wp_append_leaves (T := 24) (e := 87) (by kernel_rfl) info87 (.tmp 14) (.tmp 16) rfl Wd.heap.size _ 0 [] rfl o79.out A1 n c1 _ L rfl HNIL1.out HLEN1.out.symm (RL.out _ k77.out) (by omega) k77.out.size ?_
      intro v82 w83 ho hg
      have k87 := Lh (below_app' k77.out o79.out hg)
      have hs88 := hs0.below k87.out hs0.lt
      have o89 := Lh (own_other o80.out o79.out hg (by decide))
      rw [Nat.zero_add, List.nil_append] at ho
      have o86 := Lh ho
      obtain ⟨P84, p85, rfl, _, _, _⟩ := own_form ho
      clear ho hg
      refine hK.out _ _ hs88 (fun _ => ?_)
      clear hK K
      try simp only [zp, zn, z1, z2, z3]
      refine wpAnyH_ready (rs := [11, 13]) (by kernel_rfl) (by simp) ?_
      refine AllReadyH.cons (o := kBentM_4) rfl (fun K hK => ?_) (AllReadyH.cons (o := kBentM_2) rfl (fun K hK => ?_) AllReadyH.nil)
      ·
       rw [if_pos (by rfl)]
       refine wp_append_digs (.tmp 18) (.tmp 20) rfl Wd.heap.size _ 0 [] rfl o89.out A2 m c2 _ S rfl HNIL2.out HLEN2.out.symm H16.out (RS'.out _ k87.out) (by omega) k87.out.size ?_
       intro v90 w91 ho hg
       have k95 := Lh (below_app' k87.out o89.out hg)
       have hs96 := hs0.below k95.out hs0.lt
       have o97 := Lh (own_other o86.out o89.out hg (by decide))
       rw [Nat.zero_add, List.nil_append] at ho
       have o94 := Lh ho
       obtain ⟨Q92, q93, rfl, _, _, _⟩ := own_form ho
       clear ho hg
       refine hK.out _ _ hs96 (fun _ => ?_)
       clear hK K
       try simp only [zp, zn, z1, z2, z3]
       refine tkH 12 kBentM_5 (.agg (PR f sz (.slice P84 n p85) (.slice Q92 m q93)).toArray) hs96 (fun W hW => by clear hZ; go_simp; rfl) ?_
       try simp only [zp, zn, z1, z2, z3]
       refine wpAnyH_ready (rs := [13]) (by kernel_rfl) (by simp) ?_
       refine AllReadyH.cons (o := kBentM_2) rfl (fun K hK => ?_) AllReadyH.nil
       rw [if_pos (by rfl)]
       have hbt := (Below.refl w91.heap.size w91).alloc (Nat.le_refl _) (.cells ZP.toArray 54)
       have k99 := Lh (k95.out.trans (hbt.mono k95.out.size))
       have hs100 := hs0.below k99.out hs0.lt
       have o101 := Lh (own_below o97.out hbt)
       have o102 := Lh (own_below o94.out hbt)
       have o103 := Lh (Blk.new w91 54 ZP)
       have hgqo103 := Lh k95.out.size
       clear hbt
       go_simp
       generalize (w91.alloc (.cells ZP.toArray 54)) = u104 at k99 hs100 o101 o102 o103 hgqo103 ⊢
       refine hK.out _ _ hs100 (fun _ => ?_)
       clear hK K
       try simp only [zp, zn, z1, z2, z3]
       refine wpAnyH_ready (rs := [14]) (by kernel_rfl) (by simp) ?_
       refine AllReadyH.cons (o := kBentM_6) rfl (fun K hK => ?_) AllReadyH.nil
       rw [if_pos (by rfl)]
       have KE := Lh (show BQ w f sz L S n m w91.heap.size P84 p85 Q92 q93 (u104.setRow w91.heap.size (PR f sz (.slice P84 n p85) (.slice Q92 m q93)).toArray) from
        ⟨(Z0.out.below k99.out Z0.out.lt).setRow (by have := Z0.out.lt; have := hgqo103.out; omega) _, o103.out.row _, own_setRow (own_base o101.out HSZ.out) (own_typed o101.out o103.out (by decide)), own_setRow (own_base o102.out HSZ.out) (own_typed o102.out o103.out (by decide)), (belowRow (BD.out.trans (k99.out.mono BD.out.size)) (by have := BD.out.size; have := hgqo103.out; omega) _), by have := HSZ.out; have := hgqo103.out; omega⟩)
       have hs9 := hs100.setRow (show w.heap.size ≠ w91.heap.size by have := HSZ.out; have := hgqo103.out; omega) (PR f sz (.slice P84 n p85) (.slice Q92 m q93)).toArray
       refine wp_store_row 54 (.tmp 7) (.tmp 22) rfl (w91.heap.size) (PR f sz (.slice P84 n p85) (.slice Q92 m q93)).toArray rfl rfl 54 _ (show (u104).heap[w91.heap.size]? = _ from o103.out) (size54A _ _ _ _) (ZP_PR _ _ _ _) (PR_one _ _ _ _ _ _ _ _) ?_
       refine hK.out _ _ hs9 (fun _ => ?_)
       clear hK K
       try simp only [zp, zn, z1, z2, z3]
       refine wpAnyH_done (by kernel_rfl) ?_ _
       try simp only [zp, zn, z1, z2, z3]
       go_wp2_with fail
       go_meet
       exact ⟨w91.heap.size, P84, p85, Q92, q93, rfl, KE⟩
      ·
       rw [if_pos (by rfl)]
       have hbt := (Below.refl w83.heap.size w83).alloc (Nat.le_refl _) (.cells ZP.toArray 54)
       have k105 := Lh (k87.out.trans (hbt.mono k87.out.size))
       have hs106 := hs0.below k105.out hs0.lt
       have o107 := Lh (own_below o86.out hbt)
       have o108 := Lh (own_below o89.out hbt)
       have o109 := Lh (Blk.new w83 54 ZP)
       have hgqo109 := Lh k87.out.size
       clear hbt
       go_simp
       generalize (w83.alloc (.cells ZP.toArray 54)) = u110 at k105 hs106 o107 o108 o109 hgqo109 ⊢
       refine hK.out _ _ hs106 (fun _ => ?_)
       clear hK K
       try simp only [zp, zn, z1, z2, z3]
       refine wpAnyH_ready (rs := [11]) (by kernel_rfl) (by simp) ?_
       refine AllReadyH.cons (o := kBentM_4) rfl (fun K hK => ?_) AllReadyH.nil
       rw [if_pos (by rfl)]
       refine wp_append_digs (.tmp 18) (.tmp 20) rfl Wd.heap.size _ 0 [] rfl o108.out A2 m c2 _ S rfl HNIL2.out HLEN2.out.symm H16.out (RS'.out _ k105.out) (by omega) k105.out.size ?_
       intro v111 w112 ho hg
       have k116 := Lh (below_app' k105.out o108.out hg)
       have hs117 := hs0.below k116.out hs0.lt
       have o118 := Lh (own_other o107.out o108.out hg (by decide))
       have z119 := Lh (blk_other o109.out o108.out hg (by decide))
       rw [Nat.zero_add, List.nil_append] at ho
       have o115 := Lh ho
       obtain ⟨Q113, q114, rfl, _, _, _⟩ := own_form ho
       clear ho hg
       refine hK.out _ _ hs117 (fun _ => ?_)
       clear hK K
       try simp only [zp, zn, z1, z2, z3]
       refine tkH 12 kBentM_5 (.agg (PR f sz (.slice P84 n p85) (.slice Q113 m q114)).toArray) hs117 (fun W hW => by clear hZ; go_simp; rfl) ?_
       try simp only [zp, zn, z1, z2, z3]
       refine wpAnyH_ready (rs := [14]) (by kernel_rfl) (by simp) ?_
       refine AllReadyH.cons (o := kBentM_6) rfl (fun K hK => ?_) AllReadyH.nil
       rw [if_pos (by rfl)]
       have KE := Lh (show BQ w f sz L S n m w83.heap.size P84 p85 Q113 q114 (w112.setRow w83.heap.size (PR f sz (.slice P84 n p85) (.slice Q113 m q114)).toArray) from
        ⟨(Z0.out.below k116.out Z0.out.lt).setRow (by have := Z0.out.lt; have := hgqo109.out; omega) _, z119.out.row _, own_setRow (own_base o118.out HSZ.out) (own_typed o118.out z119.out (by decide)), own_setRow (own_base o115.out HSZ.out) (own_typed o115.out z119.out (by decide)), (belowRow (BD.out.trans (k116.out.mono BD.out.size)) (by have := BD.out.size; have := hgqo109.out; omega) _), by have := HSZ.out; have := hgqo109.out; omega⟩)
       have hs9 := hs117.setRow (show w.heap.size ≠ w83.heap.size by have := HSZ.out; have := hgqo109.out; omega) (PR f sz (.slice P84 n p85) (.slice Q113 m q114)).toArray
       refine wp_store_row 54 (.tmp 7) (.tmp 22) rfl (w83.heap.size) (PR f sz (.slice P84 n p85) (.slice Q113 m q114)).toArray rfl rfl 54 _ (show (w112).heap[w83.heap.size]? = _ from z119.out) (size54A _ _ _ _) (ZP_PR _ _ _ _) (PR_one _ _ _ _ _ _ _ _) ?_
       refine hK.out _ _ hs9 (fun _ => ?_)
       clear hK K
       try simp only [zp, zn, z1, z2, z3]
       refine wpAnyH_done (by kernel_rfl) ?_ _
       try simp only [zp, zn, z1, z2, z3]
       go_wp2_with fail
       go_meet
       exact ⟨w83.heap.size, P84, p85, Q113, q114, rfl, KE⟩
     ·
      rw [if_pos (by rfl)]
      have hbt := (Below.refl u81.heap.size u81).alloc (Nat.le_refl _) (.cells ZP.toArray 54)
      have k121 := Lh (k77.out.trans (hbt.mono k77.out.size))
      have hs122 := hs0.below k121.out hs0.lt
      have o123 := Lh (own_below o79.out hbt)
      have o124 := Lh (own_below o80.out hbt)
      have o125 := Lh (Blk.new u81 54 ZP)
      have hgqo125 := Lh k77.out.size
      clear hbt
      go_simp
      generalize (u81.alloc (.cells ZP.toArray 54)) = u126 at k121 hs122 o123 o124 o125 hgqo125 ⊢
      refine hK.out _ _ hs122 (fun _ => ?_)
      clear hK K
      try simp only [zp, zn, z1, z2, z3]
      refine wpAnyH_ready (rs := [7]) (by kernel_rfl) (by simp) ?_
      refine AllReadyH.cons (o := kBentM_3) rfl (fun K hK => ?_) AllReadyH.nil
      rw [if_pos (by rfl)]
      refine wp_append_leaves (T := 24) (e := 87) (by kernel_rfl) info87 (.tmp 14) (.tmp 16) rfl Wd.heap.size _ 0 [] rfl o123.out A1 n c1 _ L rfl HNIL1.out HLEN1.out.symm (RL.out _ k121.out) (by omega) k121.out.size ?_
      intro v127 w128 ho hg
      have k132 := Lh (below_app' k121.out o123.out hg)
      have hs133 := hs0.below k132.out hs0.lt
      have o134 := Lh (own_other o124.out o123.out hg (by decide))
      have z135 := Lh (blk_other o125.out o123.out hg (by decide))
      rw [Nat.zero_add, List.nil_append] at ho
      have o131 := Lh ho
      obtain ⟨P129, p130, rfl, _, _, _⟩ := own_form ho
      clear ho hg
      refine hK.out _ _ hs133 (fun _ => ?_)
      clear hK K
      try simp only [zp, zn, z1, z2, z3]
      refine wpAnyH_ready (rs := [11]) (by kernel_rfl) (by simp) ?_
      refine AllReadyH.cons (o := kBentM_4) rfl (fun K hK => ?_) AllReadyH.nil
      rw [if_pos (by rfl)]
      refine wp_append_digs (.tmp 18) (.tmp 20) rfl Wd.heap.size _ 0 [] rfl o134.out A2 m c2 _ S rfl HNIL2.out HLEN2.out.symm H16.out (RS'.out _ k132.out) (by omega) k132.out.size ?_
      intro v136 w137 ho hg
      have k141 := Lh (below_app' k132.out o134.out hg)
      have hs142 := hs0.below k141.out hs0.lt
      have o143 := Lh (own_other o131.out o134.out hg (by decide))
      have z144 := Lh (blk_other z135.out o134.out hg (by decide))
      rw [Nat.zero_add, List.nil_append] at ho
      have o140 := Lh ho
      obtain ⟨Q138, q139, rfl, _, _, _⟩ := own_form ho
      clear ho hg
      refine hK.out _ _ hs142 (fun _ => ?_)
      clear hK K
      try simp only [zp, zn, z1, z2, z3]
      refine tkH 12 kBentM_5 (.agg (PR f sz (.slice P129 n p130) (.slice Q138 m q139)).toArray) hs142 (fun W hW => by clear hZ; go_simp; rfl) ?_
      try simp only [zp, zn, z1, z2, z3]
      refine wpAnyH_ready (rs := [14]) (by kernel_rfl) (by simp) ?_
      refine AllReadyH.cons (o := kBentM_6) rfl (fun K hK => ?_) AllReadyH.nil
      rw [if_pos (by rfl)]
      have KE := Lh (show BQ w f sz L S n m u81.heap.size P129 p130 Q138 q139 (w137.setRow u81.heap.size (PR f sz (.slice P129 n p130) (.slice Q138 m q139)).toArray) from
       ⟨(Z0.out.below k141.out Z0.out.lt).setRow (by have := Z0.out.lt; have := hgqo125.out; omega) _, z144.out.row _, own_setRow (own_base o143.out HSZ.out) (own_typed o143.out z144.out (by decide)), own_setRow (own_base o140.out HSZ.out) (own_typed o140.out z144.out (by decide)), (belowRow (BD.out.trans (k141.out.mono BD.out.size)) (by have := BD.out.size; have := hgqo125.out; omega) _), by have := HSZ.out; have := hgqo125.out; omega⟩)
      have hs9 := hs142.setRow (show w.heap.size ≠ u81.heap.size by have := HSZ.out; have := hgqo125.out; omega) (PR f sz (.slice P129 n p130) (.slice Q138 m q139)).toArray
      refine wp_store_row 54 (.tmp 7) (.tmp 22) rfl (u81.heap.size) (PR f sz (.slice P129 n p130) (.slice Q138 m q139)).toArray rfl rfl 54 _ (show (w137).heap[u81.heap.size]? = _ from z144.out) (size54A _ _ _ _) (ZP_PR _ _ _ _) (PR_one _ _ _ _ _ _ _ _) ?_
      refine hK.out _ _ hs9 (fun _ => ?_)
      clear hK K
      try simp only [zp, zn, z1, z2, z3]
      refine wpAnyH_done (by kernel_rfl) ?_ _
      try simp only [zp, zn, z1, z2, z3]
      go_wp2_with fail
      go_meet
      exact ⟨u81.heap.size, P129, p130, Q138, q139, rfl, KE⟩
    ·
     rw [if_pos (by rfl)]
     have hbt := (Below.refl u12.heap.size u12).alloc (Nat.le_refl _) (.cells ZP.toArray 54)
     have k146 := Lh (k9.out.trans (hbt.mono k9.out.size))
     have hs147 := hs0.below k146.out hs0.lt
     have o148 := Lh (own_below o11.out hbt)
     have o149 := Lh (Blk.new u12 54 ZP)
     have hgqo149 := Lh k9.out.size
     clear hbt
     go_simp
     generalize (u12.alloc (.cells ZP.toArray 54)) = u150 at k146 hs147 o148 o149 hgqo149 ⊢
     refine hK.out _ _ hs147 (fun _ => ?_)
     clear hK K
     try simp only [zp, zn, z1, z2, z3]
     refine wpAnyH_ready (rs := [7, 8]) (by kernel_rfl) (by simp) ?_
     refine AllReadyH.cons (o := kBentM_3) rfl (fun K hK => ?_) (AllReadyH.cons (o := kBentM_1) rfl (fun K hK => ?_) AllReadyH.nil)
     ·
      rw [if_pos (by rfl)]
      refine wp_append_leaves (T := 24) (e := 87) (by kernel_rfl) info87 (.tmp 14) (.tmp 16) rfl Wd.heap.size _ 0 [] rfl o148.out A1 n c1 _ L rfl HNIL1.out HLEN1.out.symm (RL.out _ k146.out) (by omega) k146.out.size ?_
      intro v151 w152 ho hg
      have k156 := Lh (below_app' k146.out o148.out hg)
      have hs157 := hs0.below k156.out hs0.lt
      have z158 := Lh (blk_other o149.out o148.out hg (by decide))
      rw [Nat.zero_add, List.nil_append] at ho
      have o155 := Lh ho
      obtain ⟨P153, p154, rfl, _, _, _⟩ := own_form ho
      clear ho hg
      refine hK.out _ _ hs157 (fun _ => ?_)
      clear hK K
      try simp only [zp, zn, z1, z2, z3]
      refine wpAnyH_ready (rs := [8]) (by kernel_rfl) (by simp) ?_
      refine AllReadyH.cons (o := kBentM_1) rfl (fun K hK => ?_) AllReadyH.nil
      rw [if_pos (by rfl)]
      have hbt := (Below.refl w152.heap.size w152).alloc (Nat.le_refl _) (.cells #[] 29)
      have k159 := Lh (k156.out.trans (hbt.mono k156.out.size))
      have hs160 := hs0.below k159.out hs0.lt
      have o161 := Lh (own_below o155.out hbt)
      have z162 := Lh (z158.out.below hbt z158.out.lt)
      have o163 := Lh (own_nil 29 16 w152 Wd.heap.size k156.out.size)
      clear hbt
      go_simp
      generalize (w152.alloc (.cells #[] 29)) = u164 at k159 hs160 o161 o163 z162 hgqo149 ⊢
      refine hK.out _ _ hs160 (fun _ => ?_)
      clear hK K
      try simp only [zp, zn, z1, z2, z3]
      refine wpAnyH_ready (rs := [11]) (by kernel_rfl) (by simp) ?_
      refine AllReadyH.cons (o := kBentM_4) rfl (fun K hK => ?_) AllReadyH.nil
      rw [if_pos (by rfl)]
      refine wp_append_digs (.tmp 18) (.tmp 20) rfl Wd.heap.size _ 0 [] rfl o163.out A2 m c2 _ S rfl HNIL2.out HLEN2.out.symm H16.out (RS'.out _ k159.out) (by omega) k159.out.size ?_
      intro v165 w166 ho hg
      have k170 := Lh (below_app' k159.out o163.out hg)
      have hs171 := hs0.below k170.out hs0.lt
      have o172 := Lh (own_other o161.out o163.out hg (by decide))
      have z173 := Lh (blk_other z162.out o163.out hg (by decide))
      rw [Nat.zero_add, List.nil_append] at ho
      have o169 := Lh ho
      obtain ⟨Q167, q168, rfl, _, _, _⟩ := own_form ho
      clear ho hg
      refine hK.out _ _ hs171 (fun _ => ?_)
      clear hK K
      try simp only [zp, zn, z1, z2, z3]
      refine tkH 12 kBentM_5 (.agg (PR f sz (.slice P153 n p154) (.slice Q167 m q168)).toArray) hs171 (fun W hW => by clear hZ; go_simp; rfl) ?_
      try simp only [zp, zn, z1, z2, z3]
      refine wpAnyH_ready (rs := [14]) (by kernel_rfl) (by simp) ?_
      refine AllReadyH.cons (o := kBentM_6) rfl (fun K hK => ?_) AllReadyH.nil
      rw [if_pos (by rfl)]
      have KE := Lh (show BQ w f sz L S n m u12.heap.size P153 p154 Q167 q168 (w166.setRow u12.heap.size (PR f sz (.slice P153 n p154) (.slice Q167 m q168)).toArray) from
       ⟨(Z0.out.below k170.out Z0.out.lt).setRow (by have := Z0.out.lt; have := hgqo149.out; omega) _, z173.out.row _, own_setRow (own_base o172.out HSZ.out) (own_typed o172.out z173.out (by decide)), own_setRow (own_base o169.out HSZ.out) (own_typed o169.out z173.out (by decide)), (belowRow (BD.out.trans (k170.out.mono BD.out.size)) (by have := BD.out.size; have := hgqo149.out; omega) _), by have := HSZ.out; have := hgqo149.out; omega⟩)
      have hs9 := hs171.setRow (show w.heap.size ≠ u12.heap.size by have := HSZ.out; have := hgqo149.out; omega) (PR f sz (.slice P153 n p154) (.slice Q167 m q168)).toArray
      refine wp_store_row 54 (.tmp 7) (.tmp 22) rfl (u12.heap.size) (PR f sz (.slice P153 n p154) (.slice Q167 m q168)).toArray rfl rfl 54 _ (show (w166).heap[u12.heap.size]? = _ from z173.out) (size54A _ _ _ _) (ZP_PR _ _ _ _) (PR_one _ _ _ _ _ _ _ _) ?_
      refine hK.out _ _ hs9 (fun _ => ?_)
      clear hK K
      try simp only [zp, zn, z1, z2, z3]
      refine wpAnyH_done (by kernel_rfl) ?_ _
      try simp only [zp, zn, z1, z2, z3]
      go_wp2_with fail
      go_meet
      exact ⟨u12.heap.size, P153, p154, Q167, q168, rfl, KE⟩
     ·
      rw [if_pos (by rfl)]
      have hbt := (Below.refl u150.heap.size u150).alloc (Nat.le_refl _) (.cells #[] 29)
      have k175 := Lh (k146.out.trans (hbt.mono k146.out.size))
      have hs176 := hs0.below k175.out hs0.lt
      have o177 := Lh (own_below o148.out hbt)
      have z178 := Lh (o149.out.below hbt o149.out.lt)
      have o179 := Lh (own_nil 29 16 u150 Wd.heap.size k146.out.size)
      clear hbt
      go_simp
      generalize (u150.alloc (.cells #[] 29)) = u180 at k175 hs176 o177 o179 z178 hgqo149 ⊢
      refine hK.out _ _ hs176 (fun _ => ?_)
      clear hK K
      try simp only [zp, zn, z1, z2, z3]
      refine wpAnyH_ready (rs := [7]) (by kernel_rfl) (by simp) ?_
      refine AllReadyH.cons (o := kBentM_3) rfl (fun K hK => ?_) AllReadyH.nil
      rw [if_pos (by rfl)]
      refine wp_append_leaves (T := 24) (e := 87) (by kernel_rfl) info87 (.tmp 14) (.tmp 16) rfl Wd.heap.size _ 0 [] rfl o177.out A1 n c1 _ L rfl HNIL1.out HLEN1.out.symm (RL.out _ k175.out) (by omega) k175.out.size ?_
      intro v181 w182 ho hg
      have k186 := Lh (below_app' k175.out o177.out hg)
      have hs187 := hs0.below k186.out hs0.lt
      have o188 := Lh (own_other o179.out o177.out hg (by decide))
      have z189 := Lh (blk_other z178.out o177.out hg (by decide))
      rw [Nat.zero_add, List.nil_append] at ho
      have o185 := Lh ho
      obtain ⟨P183, p184, rfl, _, _, _⟩ := own_form ho
      clear ho hg
      refine hK.out _ _ hs187 (fun _ => ?_)
      clear hK K
      try simp only [zp, zn, z1, z2, z3]
      refine wpAnyH_ready (rs := [11]) (by kernel_rfl) (by simp) ?_
      refine AllReadyH.cons (o := kBentM_4) rfl (fun K hK => ?_) AllReadyH.nil
      rw [if_pos (by rfl)]
      refine wp_append_digs (.tmp 18) (.tmp 20) rfl Wd.heap.size _ 0 [] rfl o188.out A2 m c2 _ S rfl HNIL2.out HLEN2.out.symm H16.out (RS'.out _ k186.out) (by omega) k186.out.size ?_
      intro v190 w191 ho hg
      have k195 := Lh (below_app' k186.out o188.out hg)
      have hs196 := hs0.below k195.out hs0.lt
      have o197 := Lh (own_other o185.out o188.out hg (by decide))
      have z198 := Lh (blk_other z189.out o188.out hg (by decide))
      rw [Nat.zero_add, List.nil_append] at ho
      have o194 := Lh ho
      obtain ⟨Q192, q193, rfl, _, _, _⟩ := own_form ho
      clear ho hg
      refine hK.out _ _ hs196 (fun _ => ?_)
      clear hK K
      try simp only [zp, zn, z1, z2, z3]
      refine tkH 12 kBentM_5 (.agg (PR f sz (.slice P183 n p184) (.slice Q192 m q193)).toArray) hs196 (fun W hW => by clear hZ; go_simp; rfl) ?_
      try simp only [zp, zn, z1, z2, z3]
      refine wpAnyH_ready (rs := [14]) (by kernel_rfl) (by simp) ?_
      refine AllReadyH.cons (o := kBentM_6) rfl (fun K hK => ?_) AllReadyH.nil
      rw [if_pos (by rfl)]
      have KE := Lh (show BQ w f sz L S n m u12.heap.size P183 p184 Q192 q193 (w191.setRow u12.heap.size (PR f sz (.slice P183 n p184) (.slice Q192 m q193)).toArray) from
       ⟨(Z0.out.below k195.out Z0.out.lt).setRow (by have := Z0.out.lt; have := hgqo149.out; omega) _, z198.out.row _, own_setRow (own_base o197.out HSZ.out) (own_typed o197.out z198.out (by decide)), own_setRow (own_base o194.out HSZ.out) (own_typed o194.out z198.out (by decide)), (belowRow (BD.out.trans (k195.out.mono BD.out.size)) (by have := BD.out.size; have := hgqo149.out; omega) _), by have := HSZ.out; have := hgqo149.out; omega⟩)
      have hs9 := hs196.setRow (show w.heap.size ≠ u12.heap.size by have := HSZ.out; have := hgqo149.out; omega) (PR f sz (.slice P183 n p184) (.slice Q192 m q193)).toArray
      refine wp_store_row 54 (.tmp 7) (.tmp 22) rfl (u12.heap.size) (PR f sz (.slice P183 n p184) (.slice Q192 m q193)).toArray rfl rfl 54 _ (show (w191).heap[u12.heap.size]? = _ from z198.out) (size54A _ _ _ _) (ZP_PR _ _ _ _) (PR_one _ _ _ _ _ _ _ _) ?_
      refine hK.out _ _ hs9 (fun _ => ?_)
      clear hK K
      try simp only [zp, zn, z1, z2, z3]
      refine wpAnyH_done (by kernel_rfl) ?_ _
      try simp only [zp, zn, z1, z2, z3]
      go_wp2_with fail
      go_meet
      exact ⟨u12.heap.size, P183, p184, Q192, q193, rfl, KE⟩
   ·
    rw [if_pos (by rfl)]
    have hbt := (Below.refl Wd.heap.size Wd).alloc (Nat.le_refl _) (.cells #[] 29)
    have k200 := Lh (k0.out.trans (hbt.mono k0.out.size))
    have hs201 := hs0.below k200.out hs0.lt
    have o202 := Lh (own_nil 29 16 Wd Wd.heap.size k0.out.size)
    clear hbt
    go_simp
    generalize (Wd.alloc (.cells #[] 29)) = u203 at k200 hs201 o202 ⊢
    refine hK.out _ _ hs201 (fun _ => ?_)
    clear hK K
    try simp only [zp, zn, z1, z2, z3]
    refine wpAnyH_ready (rs := [4, 13]) (by kernel_rfl) (by simp) ?_
    refine AllReadyH.cons (o := kBentM_0) rfl (fun K hK => ?_) (AllReadyH.cons (o := kBentM_2) rfl (fun K hK => ?_) AllReadyH.nil)
    ·
     rw [if_pos (by rfl)]
     have hbt := (Below.refl u203.heap.size u203).alloc (Nat.le_refl _) (.cells #[] 87)
     have k204 := Lh (k200.out.trans (hbt.mono k200.out.size))
     have hs205 := hs0.below k204.out hs0.lt
     have o206 := Lh (own_below o202.out hbt)
     have o207 := Lh (own_nil 87 2 u203 Wd.heap.size k200.out.size)
     clear hbt
     go_simp
     generalize (u203.alloc (.cells #[] 87)) = u208 at k204 hs205 o207 o206 ⊢
     refine hK.out _ _ hs205 (fun _ => ?_)
     clear hK K
     try simp only [zp, zn, z1, z2, z3]
     refine wpAnyH_ready (rs := [7, 13]) (by kernel_rfl) (by simp) ?_
     refine AllReadyH.cons (o := kBentM_3) rfl (fun K hK => ?_) (AllReadyH.cons (o := kBentM_2) rfl (fun K hK => ?_) AllReadyH.nil)
     ·
      rw [if_pos (by rfl)]
      refine wp_append_leaves (T := 24) (e := 87) (by kernel_rfl) info87 (.tmp 14) (.tmp 16) rfl Wd.heap.size _ 0 [] rfl o207.out A1 n c1 _ L rfl HNIL1.out HLEN1.out.symm (RL.out _ k204.out) (by omega) k204.out.size ?_
      intro v209 w210 ho hg
      have k214 := Lh (below_app' k204.out o207.out hg)
      have hs215 := hs0.below k214.out hs0.lt
      have o216 := Lh (own_other o206.out o207.out hg (by decide))
      rw [Nat.zero_add, List.nil_append] at ho
      have o213 := Lh ho
      obtain ⟨P211, p212, rfl, _, _, _⟩ := own_form ho
      clear ho hg
      refine hK.out _ _ hs215 (fun _ => ?_)
      clear hK K
      try simp only [zp, zn, z1, z2, z3]
      refine wpAnyH_ready (rs := [11, 13]) (by kernel_rfl) (by simp) ?_
      refine AllReadyH.cons (o := kBentM_4) rfl (fun K hK => ?_) (AllReadyH.cons (o := kBentM_2) rfl (fun K hK => ?_) AllReadyH.nil)
      ·
       rw [if_pos (by rfl)]
       refine wp_append_digs (.tmp 18) (.tmp 20) rfl Wd.heap.size _ 0 [] rfl o216.out A2 m c2 _ S rfl HNIL2.out HLEN2.out.symm H16.out (RS'.out _ k214.out) (by omega) k214.out.size ?_
       intro v217 w218 ho hg
       have k222 := Lh (below_app' k214.out o216.out hg)
       have hs223 := hs0.below k222.out hs0.lt
       have o224 := Lh (own_other o213.out o216.out hg (by decide))
       rw [Nat.zero_add, List.nil_append] at ho
       have o221 := Lh ho
       obtain ⟨Q219, q220, rfl, _, _, _⟩ := own_form ho
       clear ho hg
       refine hK.out _ _ hs223 (fun _ => ?_)
       clear hK K
       try simp only [zp, zn, z1, z2, z3]
       refine tkH 12 kBentM_5 (.agg (PR f sz (.slice P211 n p212) (.slice Q219 m q220)).toArray) hs223 (fun W hW => by clear hZ; go_simp; rfl) ?_
       try simp only [zp, zn, z1, z2, z3]
       refine wpAnyH_ready (rs := [13]) (by kernel_rfl) (by simp) ?_
       refine AllReadyH.cons (o := kBentM_2) rfl (fun K hK => ?_) AllReadyH.nil
       rw [if_pos (by rfl)]
       have hbt := (Below.refl w218.heap.size w218).alloc (Nat.le_refl _) (.cells ZP.toArray 54)
       have k226 := Lh (k222.out.trans (hbt.mono k222.out.size))
       have hs227 := hs0.below k226.out hs0.lt
       have o228 := Lh (own_below o224.out hbt)
       have o229 := Lh (own_below o221.out hbt)
       have o230 := Lh (Blk.new w218 54 ZP)
       have hgqo230 := Lh k222.out.size
       clear hbt
       go_simp
       generalize (w218.alloc (.cells ZP.toArray 54)) = u231 at k226 hs227 o228 o229 o230 hgqo230 ⊢
       refine hK.out _ _ hs227 (fun _ => ?_)
       clear hK K
       try simp only [zp, zn, z1, z2, z3]
       refine wpAnyH_ready (rs := [14]) (by kernel_rfl) (by simp) ?_
       refine AllReadyH.cons (o := kBentM_6) rfl (fun K hK => ?_) AllReadyH.nil
       rw [if_pos (by rfl)]
       have KE := Lh (show BQ w f sz L S n m w218.heap.size P211 p212 Q219 q220 (u231.setRow w218.heap.size (PR f sz (.slice P211 n p212) (.slice Q219 m q220)).toArray) from
        ⟨(Z0.out.below k226.out Z0.out.lt).setRow (by have := Z0.out.lt; have := hgqo230.out; omega) _, o230.out.row _, own_setRow (own_base o228.out HSZ.out) (own_typed o228.out o230.out (by decide)), own_setRow (own_base o229.out HSZ.out) (own_typed o229.out o230.out (by decide)), (belowRow (BD.out.trans (k226.out.mono BD.out.size)) (by have := BD.out.size; have := hgqo230.out; omega) _), by have := HSZ.out; have := hgqo230.out; omega⟩)
       have hs9 := hs227.setRow (show w.heap.size ≠ w218.heap.size by have := HSZ.out; have := hgqo230.out; omega) (PR f sz (.slice P211 n p212) (.slice Q219 m q220)).toArray
       refine wp_store_row 54 (.tmp 7) (.tmp 22) rfl (w218.heap.size) (PR f sz (.slice P211 n p212) (.slice Q219 m q220)).toArray rfl rfl 54 _ (show (u231).heap[w218.heap.size]? = _ from o230.out) (size54A _ _ _ _) (ZP_PR _ _ _ _) (PR_one _ _ _ _ _ _ _ _) ?_
       refine hK.out _ _ hs9 (fun _ => ?_)
       clear hK K
       try simp only [zp, zn, z1, z2, z3]
       refine wpAnyH_done (by kernel_rfl) ?_ _
       try simp only [zp, zn, z1, z2, z3]
       go_wp2_with fail
       go_meet
       exact ⟨w218.heap.size, P211, p212, Q219, q220, rfl, KE⟩
      ·
       rw [if_pos (by rfl)]
       have hbt := (Below.refl w210.heap.size w210).alloc (Nat.le_refl _) (.cells ZP.toArray 54)
       have k232 := Lh (k214.out.trans (hbt.mono k214.out.size))
       have hs233 := hs0.below k232.out hs0.lt
       have o234 := Lh (own_below o213.out hbt)
       have o235 := Lh (own_below o216.out hbt)
       have o236 := Lh (Blk.new w210 54 ZP)
       have hgqo236 := Lh k214.out.size
       clear hbt
       go_simp
       generalize (w210.alloc (.cells ZP.toArray 54)) = u237 at k232 hs233 o234 o235 o236 hgqo236 ⊢
       refine hK.out _ _ hs233 (fun _ => ?_)
       clear hK K
       try simp only [zp, zn, z1, z2, z3]
       refine wpAnyH_ready (rs := [11]) (by kernel_rfl) (by simp) ?_
       refine AllReadyH.cons (o := kBentM_4) rfl (fun K hK => ?_) AllReadyH.nil
       rw [if_pos (by rfl)]
       refine wp_append_digs (.tmp 18) (.tmp 20) rfl Wd.heap.size _ 0 [] rfl o235.out A2 m c2 _ S rfl HNIL2.out HLEN2.out.symm H16.out (RS'.out _ k232.out) (by omega) k232.out.size ?_
       intro v238 w239 ho hg
       have k243 := Lh (below_app' k232.out o235.out hg)
       have hs244 := hs0.below k243.out hs0.lt
       have o245 := Lh (own_other o234.out o235.out hg (by decide))
       have z246 := Lh (blk_other o236.out o235.out hg (by decide))
       rw [Nat.zero_add, List.nil_append] at ho
       have o242 := Lh ho
       obtain ⟨Q240, q241, rfl, _, _, _⟩ := own_form ho
       clear ho hg
       refine hK.out _ _ hs244 (fun _ => ?_)
       clear hK K
       try simp only [zp, zn, z1, z2, z3]
       refine tkH 12 kBentM_5 (.agg (PR f sz (.slice P211 n p212) (.slice Q240 m q241)).toArray) hs244 (fun W hW => by clear hZ; go_simp; rfl) ?_
       try simp only [zp, zn, z1, z2, z3]
       refine wpAnyH_ready (rs := [14]) (by kernel_rfl) (by simp) ?_
       refine AllReadyH.cons (o := kBentM_6) rfl (fun K hK => ?_) AllReadyH.nil
       rw [if_pos (by rfl)]
       have KE := Lh (show BQ w f sz L S n m w210.heap.size P211 p212 Q240 q241 (w239.setRow w210.heap.size (PR f sz (.slice P211 n p212) (.slice Q240 m q241)).toArray) from
        ⟨(Z0.out.below k243.out Z0.out.lt).setRow (by have := Z0.out.lt; have := hgqo236.out; omega) _, z246.out.row _, own_setRow (own_base o245.out HSZ.out) (own_typed o245.out z246.out (by decide)), own_setRow (own_base o242.out HSZ.out) (own_typed o242.out z246.out (by decide)), (belowRow (BD.out.trans (k243.out.mono BD.out.size)) (by have := BD.out.size; have := hgqo236.out; omega) _), by have := HSZ.out; have := hgqo236.out; omega⟩)
       have hs9 := hs244.setRow (show w.heap.size ≠ w210.heap.size by have := HSZ.out; have := hgqo236.out; omega) (PR f sz (.slice P211 n p212) (.slice Q240 m q241)).toArray
       refine wp_store_row 54 (.tmp 7) (.tmp 22) rfl (w210.heap.size) (PR f sz (.slice P211 n p212) (.slice Q240 m q241)).toArray rfl rfl 54 _ (show (w239).heap[w210.heap.size]? = _ from z246.out) (size54A _ _ _ _) (ZP_PR _ _ _ _) (PR_one _ _ _ _ _ _ _ _) ?_
       refine hK.out _ _ hs9 (fun _ => ?_)
       clear hK K
       try simp only [zp, zn, z1, z2, z3]
       refine wpAnyH_done (by kernel_rfl) ?_ _
       try simp only [zp, zn, z1, z2, z3]
       go_wp2_with fail
       go_meet
       exact ⟨w210.heap.size, P211, p212, Q240, q241, rfl, KE⟩
     ·
      rw [if_pos (by rfl)]
      have hbt := (Below.refl u208.heap.size u208).alloc (Nat.le_refl _) (.cells ZP.toArray 54)
      have k248 := Lh (k204.out.trans (hbt.mono k204.out.size))
      have hs249 := hs0.below k248.out hs0.lt
      have o250 := Lh (own_below o207.out hbt)
      have o251 := Lh (own_below o206.out hbt)
      have o252 := Lh (Blk.new u208 54 ZP)
      have hgqo252 := Lh k204.out.size
      clear hbt
      go_simp
      generalize (u208.alloc (.cells ZP.toArray 54)) = u253 at k248 hs249 o250 o251 o252 hgqo252 ⊢
      refine hK.out _ _ hs249 (fun _ => ?_)
      clear hK K
      try simp only [zp, zn, z1, z2, z3]
      refine wpAnyH_ready (rs := [7]) (by kernel_rfl) (by simp) ?_
      refine AllReadyH.cons (o := kBentM_3) rfl (fun K hK => ?_) AllReadyH.nil
      rw [if_pos (by rfl)]
      refine wp_append_leaves (T := 24) (e := 87) (by kernel_rfl) info87 (.tmp 14) (.tmp 16) rfl Wd.heap.size _ 0 [] rfl o250.out A1 n c1 _ L rfl HNIL1.out HLEN1.out.symm (RL.out _ k248.out) (by omega) k248.out.size ?_
      intro v254 w255 ho hg
      have k259 := Lh (below_app' k248.out o250.out hg)
      have hs260 := hs0.below k259.out hs0.lt
      have o261 := Lh (own_other o251.out o250.out hg (by decide))
      have z262 := Lh (blk_other o252.out o250.out hg (by decide))
      rw [Nat.zero_add, List.nil_append] at ho
      have o258 := Lh ho
      obtain ⟨P256, p257, rfl, _, _, _⟩ := own_form ho
      clear ho hg
      refine hK.out _ _ hs260 (fun _ => ?_)
      clear hK K
      try simp only [zp, zn, z1, z2, z3]
      refine wpAnyH_ready (rs := [11]) (by kernel_rfl) (by simp) ?_
      refine AllReadyH.cons (o := kBentM_4) rfl (fun K hK => ?_) AllReadyH.nil
      rw [if_pos (by rfl)]
      refine wp_append_digs (.tmp 18) (.tmp 20) rfl Wd.heap.size _ 0 [] rfl o261.out A2 m c2 _ S rfl HNIL2.out HLEN2.out.symm H16.out (RS'.out _ k259.out) (by omega) k259.out.size ?_
      intro v263 w264 ho hg
      have k268 := Lh (below_app' k259.out o261.out hg)
      have hs269 := hs0.below k268.out hs0.lt
      have o270 := Lh (own_other o258.out o261.out hg (by decide))
      have z271 := Lh (blk_other z262.out o261.out hg (by decide))
      rw [Nat.zero_add, List.nil_append] at ho
      have o267 := Lh ho
      obtain ⟨Q265, q266, rfl, _, _, _⟩ := own_form ho
      clear ho hg
      refine hK.out _ _ hs269 (fun _ => ?_)
      clear hK K
      try simp only [zp, zn, z1, z2, z3]
      refine tkH 12 kBentM_5 (.agg (PR f sz (.slice P256 n p257) (.slice Q265 m q266)).toArray) hs269 (fun W hW => by clear hZ; go_simp; rfl) ?_
      try simp only [zp, zn, z1, z2, z3]
      refine wpAnyH_ready (rs := [14]) (by kernel_rfl) (by simp) ?_
      refine AllReadyH.cons (o := kBentM_6) rfl (fun K hK => ?_) AllReadyH.nil
      rw [if_pos (by rfl)]
      have KE := Lh (show BQ w f sz L S n m u208.heap.size P256 p257 Q265 q266 (w264.setRow u208.heap.size (PR f sz (.slice P256 n p257) (.slice Q265 m q266)).toArray) from
       ⟨(Z0.out.below k268.out Z0.out.lt).setRow (by have := Z0.out.lt; have := hgqo252.out; omega) _, z271.out.row _, own_setRow (own_base o270.out HSZ.out) (own_typed o270.out z271.out (by decide)), own_setRow (own_base o267.out HSZ.out) (own_typed o267.out z271.out (by decide)), (belowRow (BD.out.trans (k268.out.mono BD.out.size)) (by have := BD.out.size; have := hgqo252.out; omega) _), by have := HSZ.out; have := hgqo252.out; omega⟩)
      have hs9 := hs269.setRow (show w.heap.size ≠ u208.heap.size by have := HSZ.out; have := hgqo252.out; omega) (PR f sz (.slice P256 n p257) (.slice Q265 m q266)).toArray
      refine wp_store_row 54 (.tmp 7) (.tmp 22) rfl (u208.heap.size) (PR f sz (.slice P256 n p257) (.slice Q265 m q266)).toArray rfl rfl 54 _ (show (w264).heap[u208.heap.size]? = _ from z271.out) (size54A _ _ _ _) (ZP_PR _ _ _ _) (PR_one _ _ _ _ _ _ _ _) ?_
      refine hK.out _ _ hs9 (fun _ => ?_)
      clear hK K
      try simp only [zp, zn, z1, z2, z3]
      refine wpAnyH_done (by kernel_rfl) ?_ _
      try simp only [zp, zn, z1, z2, z3]
      go_wp2_with fail
      go_meet
      exact ⟨u208.heap.size, P256, p257, Q265, q266, rfl, KE⟩
    ·
     rw [if_pos (by rfl)]
     have hbt := (Below.refl u203.heap.size u203).alloc (Nat.le_refl _) (.cells ZP.toArray 54)
     have k273 := Lh (k200.out.trans (hbt.mono k200.out.size))
     have hs274 := hs0.below k273.out hs0.lt
     have o275 := Lh (own_below o202.out hbt)
     have o276 := Lh (Blk.new u203 54 ZP)
     have hgqo276 := Lh k200.out.size
     clear hbt
     go_simp
     generalize (u203.alloc (.cells ZP.toArray 54)) = u277 at k273 hs274 o275 o276 hgqo276 ⊢
     refine hK.out _ _ hs274 (fun _ => ?_)
     clear hK K
     try simp only [zp, zn, z1, z2, z3]
     refine wpAnyH_ready (rs := [4]) (by kernel_rfl) (by simp) ?_
     refine AllReadyH.cons (o := kBentM_0) rfl (fun K hK => ?_) AllReadyH.nil
     rw [if_pos (by rfl)]
     have hbt := (Below.refl u277.heap.size u277).alloc (Nat.le_refl _) (.cells #[] 87)
     have k278 := Lh (k273.out.trans (hbt.mono k273.out.size))
     have hs279 := hs0.below k278.out hs0.lt
     have o280 := Lh (own_below o275.out hbt)
     have z281 := Lh (o276.out.below hbt o276.out.lt)
     have o282 := Lh (own_nil 87 2 u277 Wd.heap.size k273.out.size)
     clear hbt
     go_simp
     generalize (u277.alloc (.cells #[] 87)) = u283 at k278 hs279 o282 o280 z281 hgqo276 ⊢
     refine hK.out _ _ hs279 (fun _ => ?_)
     clear hK K
     try simp only [zp, zn, z1, z2, z3]
     refine wpAnyH_ready (rs := [7]) (by kernel_rfl) (by simp) ?_
     refine AllReadyH.cons (o := kBentM_3) rfl (fun K hK => ?_) AllReadyH.nil
     rw [if_pos (by rfl)]
     refine wp_append_leaves (T := 24) (e := 87) (by kernel_rfl) info87 (.tmp 14) (.tmp 16) rfl Wd.heap.size _ 0 [] rfl o282.out A1 n c1 _ L rfl HNIL1.out HLEN1.out.symm (RL.out _ k278.out) (by omega) k278.out.size ?_
     intro v284 w285 ho hg
     have k289 := Lh (below_app' k278.out o282.out hg)
     have hs290 := hs0.below k289.out hs0.lt
     have o291 := Lh (own_other o280.out o282.out hg (by decide))
     have z292 := Lh (blk_other z281.out o282.out hg (by decide))
     rw [Nat.zero_add, List.nil_append] at ho
     have o288 := Lh ho
     obtain ⟨P286, p287, rfl, _, _, _⟩ := own_form ho
     clear ho hg
     refine hK.out _ _ hs290 (fun _ => ?_)
     clear hK K
     try simp only [zp, zn, z1, z2, z3]
     refine wpAnyH_ready (rs := [11]) (by kernel_rfl) (by simp) ?_
     refine AllReadyH.cons (o := kBentM_4) rfl (fun K hK => ?_) AllReadyH.nil
     rw [if_pos (by rfl)]
     refine wp_append_digs (.tmp 18) (.tmp 20) rfl Wd.heap.size _ 0 [] rfl o291.out A2 m c2 _ S rfl HNIL2.out HLEN2.out.symm H16.out (RS'.out _ k289.out) (by omega) k289.out.size ?_
     intro v293 w294 ho hg
     have k298 := Lh (below_app' k289.out o291.out hg)
     have hs299 := hs0.below k298.out hs0.lt
     have o300 := Lh (own_other o288.out o291.out hg (by decide))
     have z301 := Lh (blk_other z292.out o291.out hg (by decide))
     rw [Nat.zero_add, List.nil_append] at ho
     have o297 := Lh ho
     obtain ⟨Q295, q296, rfl, _, _, _⟩ := own_form ho
     clear ho hg
     refine hK.out _ _ hs299 (fun _ => ?_)
     clear hK K
     try simp only [zp, zn, z1, z2, z3]
     refine tkH 12 kBentM_5 (.agg (PR f sz (.slice P286 n p287) (.slice Q295 m q296)).toArray) hs299 (fun W hW => by clear hZ; go_simp; rfl) ?_
     try simp only [zp, zn, z1, z2, z3]
     refine wpAnyH_ready (rs := [14]) (by kernel_rfl) (by simp) ?_
     refine AllReadyH.cons (o := kBentM_6) rfl (fun K hK => ?_) AllReadyH.nil
     rw [if_pos (by rfl)]
     have KE := Lh (show BQ w f sz L S n m u203.heap.size P286 p287 Q295 q296 (w294.setRow u203.heap.size (PR f sz (.slice P286 n p287) (.slice Q295 m q296)).toArray) from
      ⟨(Z0.out.below k298.out Z0.out.lt).setRow (by have := Z0.out.lt; have := hgqo276.out; omega) _, z301.out.row _, own_setRow (own_base o300.out HSZ.out) (own_typed o300.out z301.out (by decide)), own_setRow (own_base o297.out HSZ.out) (own_typed o297.out z301.out (by decide)), (belowRow (BD.out.trans (k298.out.mono BD.out.size)) (by have := BD.out.size; have := hgqo276.out; omega) _), by have := HSZ.out; have := hgqo276.out; omega⟩)
     have hs9 := hs299.setRow (show w.heap.size ≠ u203.heap.size by have := HSZ.out; have := hgqo276.out; omega) (PR f sz (.slice P286 n p287) (.slice Q295 m q296)).toArray
     refine wp_store_row 54 (.tmp 7) (.tmp 22) rfl (u203.heap.size) (PR f sz (.slice P286 n p287) (.slice Q295 m q296)).toArray rfl rfl 54 _ (show (w294).heap[u203.heap.size]? = _ from z301.out) (size54A _ _ _ _) (ZP_PR _ _ _ _) (PR_one _ _ _ _ _ _ _ _) ?_
     refine hK.out _ _ hs9 (fun _ => ?_)
     clear hK K
     try simp only [zp, zn, z1, z2, z3]
     refine wpAnyH_done (by kernel_rfl) ?_ _
     try simp only [zp, zn, z1, z2, z3]
     go_wp2_with fail
     go_meet
     exact ⟨u203.heap.size, P286, p287, Q295, q296, rfl, KE⟩
   ·
    rw [if_pos (by rfl)]
    have hbt := (Below.refl Wd.heap.size Wd).alloc (Nat.le_refl _) (.cells ZP.toArray 54)
    have k303 := Lh (k0.out.trans (hbt.mono k0.out.size))
    have hs304 := hs0.below k303.out hs0.lt
    have o305 := Lh (Blk.new Wd 54 ZP)
    have hgqo305 := Lh k0.out.size
    clear hbt
    go_simp
    generalize (Wd.alloc (.cells ZP.toArray 54)) = u306 at k303 hs304 o305 hgqo305 ⊢
    refine hK.out _ _ hs304 (fun _ => ?_)
    clear hK K
    try simp only [zp, zn, z1, z2, z3]
    refine wpAnyH_ready (rs := [4, 8]) (by kernel_rfl) (by simp) ?_
    refine AllReadyH.cons (o := kBentM_0) rfl (fun K hK => ?_) (AllReadyH.cons (o := kBentM_1) rfl (fun K hK => ?_) AllReadyH.nil)
    ·
     rw [if_pos (by rfl)]
     have hbt := (Below.refl u306.heap.size u306).alloc (Nat.le_refl _) (.cells #[] 87)
     have k307 := Lh (k303.out.trans (hbt.mono k303.out.size))
     have hs308 := hs0.below k307.out hs0.lt
     have z309 := Lh (o305.out.below hbt o305.out.lt)
     have o310 := Lh (own_nil 87 2 u306 Wd.heap.size k303.out.size)
     clear hbt
     go_simp
     generalize (u306.alloc (.cells #[] 87)) = u311 at k307 hs308 o310 z309 hgqo305 ⊢
     refine hK.out _ _ hs308 (fun _ => ?_)
     clear hK K
     try simp only [zp, zn, z1, z2, z3]
     refine wpAnyH_ready (rs := [7, 8]) (by kernel_rfl) (by simp) ?_
     refine AllReadyH.cons (o := kBentM_3) rfl (fun K hK => ?_) (AllReadyH.cons (o := kBentM_1) rfl (fun K hK => ?_) AllReadyH.nil)
     ·
      rw [if_pos (by rfl)]
      refine wp_append_leaves (T := 24) (e := 87) (by kernel_rfl) info87 (.tmp 14) (.tmp 16) rfl Wd.heap.size _ 0 [] rfl o310.out A1 n c1 _ L rfl HNIL1.out HLEN1.out.symm (RL.out _ k307.out) (by omega) k307.out.size ?_
      intro v312 w313 ho hg
      have k317 := Lh (below_app' k307.out o310.out hg)
      have hs318 := hs0.below k317.out hs0.lt
      have z319 := Lh (blk_other z309.out o310.out hg (by decide))
      rw [Nat.zero_add, List.nil_append] at ho
      have o316 := Lh ho
      obtain ⟨P314, p315, rfl, _, _, _⟩ := own_form ho
      clear ho hg
      refine hK.out _ _ hs318 (fun _ => ?_)
      clear hK K
      try simp only [zp, zn, z1, z2, z3]
      refine wpAnyH_ready (rs := [8]) (by kernel_rfl) (by simp) ?_
      refine AllReadyH.cons (o := kBentM_1) rfl (fun K hK => ?_) AllReadyH.nil
      rw [if_pos (by rfl)]
      have hbt := (Below.refl w313.heap.size w313).alloc (Nat.le_refl _) (.cells #[] 29)
      have k320 := Lh (k317.out.trans (hbt.mono k317.out.size))
      have hs321 := hs0.below k320.out hs0.lt
      have o322 := Lh (own_below o316.out hbt)
      have z323 := Lh (z319.out.below hbt z319.out.lt)
      have o324 := Lh (own_nil 29 16 w313 Wd.heap.size k317.out.size)
      clear hbt
      go_simp
      generalize (w313.alloc (.cells #[] 29)) = u325 at k320 hs321 o322 o324 z323 hgqo305 ⊢
      refine hK.out _ _ hs321 (fun _ => ?_)
      clear hK K
      try simp only [zp, zn, z1, z2, z3]
      refine wpAnyH_ready (rs := [11]) (by kernel_rfl) (by simp) ?_
      refine AllReadyH.cons (o := kBentM_4) rfl (fun K hK => ?_) AllReadyH.nil
      rw [if_pos (by rfl)]
      refine wp_append_digs (.tmp 18) (.tmp 20) rfl Wd.heap.size _ 0 [] rfl o324.out A2 m c2 _ S rfl HNIL2.out HLEN2.out.symm H16.out (RS'.out _ k320.out) (by omega) k320.out.size ?_
      intro v326 w327 ho hg
      have k331 := Lh (below_app' k320.out o324.out hg)
      have hs332 := hs0.below k331.out hs0.lt
      have o333 := Lh (own_other o322.out o324.out hg (by decide))
      have z334 := Lh (blk_other z323.out o324.out hg (by decide))
      rw [Nat.zero_add, List.nil_append] at ho
      have o330 := Lh ho
      obtain ⟨Q328, q329, rfl, _, _, _⟩ := own_form ho
      clear ho hg
      refine hK.out _ _ hs332 (fun _ => ?_)
      clear hK K
      try simp only [zp, zn, z1, z2, z3]
      refine tkH 12 kBentM_5 (.agg (PR f sz (.slice P314 n p315) (.slice Q328 m q329)).toArray) hs332 (fun W hW => by clear hZ; go_simp; rfl) ?_
      try simp only [zp, zn, z1, z2, z3]
      refine wpAnyH_ready (rs := [14]) (by kernel_rfl) (by simp) ?_
      refine AllReadyH.cons (o := kBentM_6) rfl (fun K hK => ?_) AllReadyH.nil
      rw [if_pos (by rfl)]
      have KE := Lh (show BQ w f sz L S n m Wd.heap.size P314 p315 Q328 q329 (w327.setRow Wd.heap.size (PR f sz (.slice P314 n p315) (.slice Q328 m q329)).toArray) from
       ⟨(Z0.out.below k331.out Z0.out.lt).setRow (by have := Z0.out.lt; have := hgqo305.out; omega) _, z334.out.row _, own_setRow (own_base o333.out HSZ.out) (own_typed o333.out z334.out (by decide)), own_setRow (own_base o330.out HSZ.out) (own_typed o330.out z334.out (by decide)), (belowRow (BD.out.trans (k331.out.mono BD.out.size)) (by have := BD.out.size; have := hgqo305.out; omega) _), by have := HSZ.out; have := hgqo305.out; omega⟩)
      have hs9 := hs332.setRow (show w.heap.size ≠ Wd.heap.size by have := HSZ.out; have := hgqo305.out; omega) (PR f sz (.slice P314 n p315) (.slice Q328 m q329)).toArray
      refine wp_store_row 54 (.tmp 7) (.tmp 22) rfl (Wd.heap.size) (PR f sz (.slice P314 n p315) (.slice Q328 m q329)).toArray rfl rfl 54 _ (show (w327).heap[Wd.heap.size]? = _ from z334.out) (size54A _ _ _ _) (ZP_PR _ _ _ _) (PR_one _ _ _ _ _ _ _ _) ?_
      refine hK.out _ _ hs9 (fun _ => ?_)
      clear hK K
      try simp only [zp, zn, z1, z2, z3]
      refine wpAnyH_done (by kernel_rfl) ?_ _
      try simp only [zp, zn, z1, z2, z3]
      go_wp2_with fail
      go_meet
      exact ⟨Wd.heap.size, P314, p315, Q328, q329, rfl, KE⟩
     ·
      rw [if_pos (by rfl)]
      have hbt := (Below.refl u311.heap.size u311).alloc (Nat.le_refl _) (.cells #[] 29)
      have k336 := Lh (k307.out.trans (hbt.mono k307.out.size))
      have hs337 := hs0.below k336.out hs0.lt
      have o338 := Lh (own_below o310.out hbt)
      have z339 := Lh (z309.out.below hbt z309.out.lt)
      have o340 := Lh (own_nil 29 16 u311 Wd.heap.size k307.out.size)
      clear hbt
      go_simp
      generalize (u311.alloc (.cells #[] 29)) = u341 at k336 hs337 o338 o340 z339 hgqo305 ⊢
      refine hK.out _ _ hs337 (fun _ => ?_)
      clear hK K
      try simp only [zp, zn, z1, z2, z3]
      refine wpAnyH_ready (rs := [7]) (by kernel_rfl) (by simp) ?_
      refine AllReadyH.cons (o := kBentM_3) rfl (fun K hK => ?_) AllReadyH.nil
      rw [if_pos (by rfl)]
      refine wp_append_leaves (T := 24) (e := 87) (by kernel_rfl) info87 (.tmp 14) (.tmp 16) rfl Wd.heap.size _ 0 [] rfl o338.out A1 n c1 _ L rfl HNIL1.out HLEN1.out.symm (RL.out _ k336.out) (by omega) k336.out.size ?_
      intro v342 w343 ho hg
      have k347 := Lh (below_app' k336.out o338.out hg)
      have hs348 := hs0.below k347.out hs0.lt
      have o349 := Lh (own_other o340.out o338.out hg (by decide))
      have z350 := Lh (blk_other z339.out o338.out hg (by decide))
      rw [Nat.zero_add, List.nil_append] at ho
      have o346 := Lh ho
      obtain ⟨P344, p345, rfl, _, _, _⟩ := own_form ho
      clear ho hg
      refine hK.out _ _ hs348 (fun _ => ?_)
      clear hK K
      try simp only [zp, zn, z1, z2, z3]
      refine wpAnyH_ready (rs := [11]) (by kernel_rfl) (by simp) ?_
      refine AllReadyH.cons (o := kBentM_4) rfl (fun K hK => ?_) AllReadyH.nil
      rw [if_pos (by rfl)]
      refine wp_append_digs (.tmp 18) (.tmp 20) rfl Wd.heap.size _ 0 [] rfl o349.out A2 m c2 _ S rfl HNIL2.out HLEN2.out.symm H16.out (RS'.out _ k347.out) (by omega) k347.out.size ?_
      intro v351 w352 ho hg
      have k356 := Lh (below_app' k347.out o349.out hg)
      have hs357 := hs0.below k356.out hs0.lt
      have o358 := Lh (own_other o346.out o349.out hg (by decide))
      have z359 := Lh (blk_other z350.out o349.out hg (by decide))
      rw [Nat.zero_add, List.nil_append] at ho
      have o355 := Lh ho
      obtain ⟨Q353, q354, rfl, _, _, _⟩ := own_form ho
      clear ho hg
      refine hK.out _ _ hs357 (fun _ => ?_)
      clear hK K
      try simp only [zp, zn, z1, z2, z3]
      refine tkH 12 kBentM_5 (.agg (PR f sz (.slice P344 n p345) (.slice Q353 m q354)).toArray) hs357 (fun W hW => by clear hZ; go_simp; rfl) ?_
      try simp only [zp, zn, z1, z2, z3]
      refine wpAnyH_ready (rs := [14]) (by kernel_rfl) (by simp) ?_
      refine AllReadyH.cons (o := kBentM_6) rfl (fun K hK => ?_) AllReadyH.nil
      rw [if_pos (by rfl)]
      have KE := Lh (show BQ w f sz L S n m Wd.heap.size P344 p345 Q353 q354 (w352.setRow Wd.heap.size (PR f sz (.slice P344 n p345) (.slice Q353 m q354)).toArray) from
       ⟨(Z0.out.below k356.out Z0.out.lt).setRow (by have := Z0.out.lt; have := hgqo305.out; omega) _, z359.out.row _, own_setRow (own_base o358.out HSZ.out) (own_typed o358.out z359.out (by decide)), own_setRow (own_base o355.out HSZ.out) (own_typed o355.out z359.out (by decide)), (belowRow (BD.out.trans (k356.out.mono BD.out.size)) (by have := BD.out.size; have := hgqo305.out; omega) _), by have := HSZ.out; have := hgqo305.out; omega⟩)
      have hs9 := hs357.setRow (show w.heap.size ≠ Wd.heap.size by have := HSZ.out; have := hgqo305.out; omega) (PR f sz (.slice P344 n p345) (.slice Q353 m q354)).toArray
      refine wp_store_row 54 (.tmp 7) (.tmp 22) rfl (Wd.heap.size) (PR f sz (.slice P344 n p345) (.slice Q353 m q354)).toArray rfl rfl 54 _ (show (w352).heap[Wd.heap.size]? = _ from z359.out) (size54A _ _ _ _) (ZP_PR _ _ _ _) (PR_one _ _ _ _ _ _ _ _) ?_
      refine hK.out _ _ hs9 (fun _ => ?_)
      clear hK K
      try simp only [zp, zn, z1, z2, z3]
      refine wpAnyH_done (by kernel_rfl) ?_ _
      try simp only [zp, zn, z1, z2, z3]
      go_wp2_with fail
      go_meet
      exact ⟨Wd.heap.size, P344, p345, Q353, q354, rfl, KE⟩
    ·
     rw [if_pos (by rfl)]
     have hbt := (Below.refl u306.heap.size u306).alloc (Nat.le_refl _) (.cells #[] 29)
     have k361 := Lh (k303.out.trans (hbt.mono k303.out.size))
     have hs362 := hs0.below k361.out hs0.lt
     have z363 := Lh (o305.out.below hbt o305.out.lt)
     have o364 := Lh (own_nil 29 16 u306 Wd.heap.size k303.out.size)
     clear hbt
     go_simp
     generalize (u306.alloc (.cells #[] 29)) = u365 at k361 hs362 o364 z363 hgqo305 ⊢
     refine hK.out _ _ hs362 (fun _ => ?_)
     clear hK K
     try simp only [zp, zn, z1, z2, z3]
     refine wpAnyH_ready (rs := [4]) (by kernel_rfl) (by simp) ?_
     refine AllReadyH.cons (o := kBentM_0) rfl (fun K hK => ?_) AllReadyH.nil
     rw [if_pos (by rfl)]
     have hbt := (Below.refl u365.heap.size u365).alloc (Nat.le_refl _) (.cells #[] 87)
     have k366 := Lh (k361.out.trans (hbt.mono k361.out.size))
     have hs367 := hs0.below k366.out hs0.lt
     have o368 := Lh (own_below o364.out hbt)
     have z369 := Lh (z363.out.below hbt z363.out.lt)
     have o370 := Lh (own_nil 87 2 u365 Wd.heap.size k361.out.size)
     clear hbt
     go_simp
     generalize (u365.alloc (.cells #[] 87)) = u371 at k366 hs367 o370 o368 z369 hgqo305 ⊢
     refine hK.out _ _ hs367 (fun _ => ?_)
     clear hK K
     try simp only [zp, zn, z1, z2, z3]
     refine wpAnyH_ready (rs := [7]) (by kernel_rfl) (by simp) ?_
     refine AllReadyH.cons (o := kBentM_3) rfl (fun K hK => ?_) AllReadyH.nil
     rw [if_pos (by rfl)]
     refine wp_append_leaves (T := 24) (e := 87) (by kernel_rfl) info87 (.tmp 14) (.tmp 16) rfl Wd.heap.size _ 0 [] rfl o370.out A1 n c1 _ L rfl HNIL1.out HLEN1.out.symm (RL.out _ k366.out) (by omega) k366.out.size ?_
     intro v372 w373 ho hg
     have k377 := Lh (below_app' k366.out o370.out hg)
     have hs378 := hs0.below k377.out hs0.lt
     have o379 := Lh (own_other o368.out o370.out hg (by decide))
     have z380 := Lh (blk_other z369.out o370.out hg (by decide))
     rw [Nat.zero_add, List.nil_append] at ho
     have o376 := Lh ho
     obtain ⟨P374, p375, rfl, _, _, _⟩ := own_form ho
     clear ho hg
     refine hK.out _ _ hs378 (fun _ => ?_)
     clear hK K
     try simp only [zp, zn, z1, z2, z3]
     refine wpAnyH_ready (rs := [11]) (by kernel_rfl) (by simp) ?_
     refine AllReadyH.cons (o := kBentM_4) rfl (fun K hK => ?_) AllReadyH.nil
     rw [if_pos (by rfl)]
     refine wp_append_digs (.tmp 18) (.tmp 20) rfl Wd.heap.size _ 0 [] rfl o379.out A2 m c2 _ S rfl HNIL2.out HLEN2.out.symm H16.out (RS'.out _ k377.out) (by omega) k377.out.size ?_
     intro v381 w382 ho hg
     have k386 := Lh (below_app' k377.out o379.out hg)
     have hs387 := hs0.below k386.out hs0.lt
     have o388 := Lh (own_other o376.out o379.out hg (by decide))
     have z389 := Lh (blk_other z380.out o379.out hg (by decide))
     rw [Nat.zero_add, List.nil_append] at ho
     have o385 := Lh ho
     obtain ⟨Q383, q384, rfl, _, _, _⟩ := own_form ho
     clear ho hg
     refine hK.out _ _ hs387 (fun _ => ?_)
     clear hK K
     try simp only [zp, zn, z1, z2, z3]
     refine tkH 12 kBentM_5 (.agg (PR f sz (.slice P374 n p375) (.slice Q383 m q384)).toArray) hs387 (fun W hW => by clear hZ; go_simp; rfl) ?_
     try simp only [zp, zn, z1, z2, z3]
     refine wpAnyH_ready (rs := [14]) (by kernel_rfl) (by simp) ?_
     refine AllReadyH.cons (o := kBentM_6) rfl (fun K hK => ?_) AllReadyH.nil
     rw [if_pos (by rfl)]
     have KE := Lh (show BQ w f sz L S n m Wd.heap.size P374 p375 Q383 q384 (w382.setRow Wd.heap.size (PR f sz (.slice P374 n p375) (.slice Q383 m q384)).toArray) from
      ⟨(Z0.out.below k386.out Z0.out.lt).setRow (by have := Z0.out.lt; have := hgqo305.out; omega) _, z389.out.row _, own_setRow (own_base o388.out HSZ.out) (own_typed o388.out z389.out (by decide)), own_setRow (own_base o385.out HSZ.out) (own_typed o385.out z389.out (by decide)), (belowRow (BD.out.trans (k386.out.mono BD.out.size)) (by have := BD.out.size; have := hgqo305.out; omega) _), by have := HSZ.out; have := hgqo305.out; omega⟩)
     have hs9 := hs387.setRow (show w.heap.size ≠ Wd.heap.size by have := HSZ.out; have := hgqo305.out; omega) (PR f sz (.slice P374 n p375) (.slice Q383 m q384)).toArray
     refine wp_store_row 54 (.tmp 7) (.tmp 22) rfl (Wd.heap.size) (PR f sz (.slice P374 n p375) (.slice Q383 m q384)).toArray rfl rfl 54 _ (show (w382).heap[Wd.heap.size]? = _ from z389.out) (size54A _ _ _ _) (ZP_PR _ _ _ _) (PR_one _ _ _ _ _ _ _ _) ?_
     refine hK.out _ _ hs9 (fun _ => ?_)
     clear hK K
     try simp only [zp, zn, z1, z2, z3]
     refine wpAnyH_done (by kernel_rfl) ?_ _
     try simp only [zp, zn, z1, z2, z3]
     go_wp2_with fail
     go_meet
     exact ⟨Wd.heap.size, P374, p375, Q383, q384, rfl, KE⟩
 case rest =>
  obtain ⟨gq, P1, d1, P2, d2, rfl, K2⟩ := hcut
  obtain ⟨w2, hw2⟩ : ∃ W, W = wc := ⟨_, rfl⟩
  rw [← hw2] at K2 ⊢
  clear hw2 RL RS' HS1 Z1 B1 HW1 HSZ1
  have q2 : w2.cell? ⟨gq, 2, none⟩ = some (.slice P1 n d1) := (K2.out.q.cell 2).trans rfl
  have q3 : w2.cell? ⟨gq, 3, none⟩ = some (.slice P2 m d2) := (K2.out.q.cell 3).trans rfl
  go_upto_region 3 with (go_at_call 17; refine (HA1.out _).mono ?_; rintro e wx ⟨rfl, rfl⟩)
  go_upto_region 4 with (go_at_call 17; refine (HA2.out _).mono ?_; rintro e wx ⟨rfl, rfl⟩)
  go_upto_block 0 with (go_at_call 17; refine (HAQ.out _).mono ?_; rintro e wx ⟨rfl, rfl⟩)
  go_cut [7] (fun s7 wx => s7 = .pointer (some ⟨gq, 0, none⟩) ∧ Hid (BentC w n m M gq wx))
  case first =>
   have KSAME := Lh (fun W (h : BQ w f sz L S n m gq P1 d1 P2 d2 W) => show BentC w n m M gq W from ⟨f, sz, L, S, n, m, P1, d1, P2, d2, h, HLEN1.out, HLEN2.out, H16.out, by omega, by omega, fun x hx => by have := HM.out x hx; omega, HF.out, HSZI.out⟩)
   have KSET := Lh (fun W (L' : List Lf) (hl : L'.length = L.length) (hs : ∀ x ∈ L', x.1.size ≤ M + 2 ∧ x.2.size ≤ M + 2) (h : BQ w f sz L' S n m gq P1 d1 P2 d2 W) => show BentC w n m M gq W from ⟨f, sz, L', S, n, m, P1, d1, P2, d2, h, by rw [hl]; exact HLEN1.out, HLEN2.out, H16.out, by omega, by omega, hs, HF.out, HSZI.out⟩)
   rcases HQ.out with hq | hq | hq | hq | hq | hq | hq | hq | hq | hq | hq
   ·
    as_aux_lemma =>
     subst hq
     clear HQ HAQ
     go_upto_region 15 with fail
     rcases Nat.eq_zero_or_pos n with hn0 | hn0
     ·
      subst hn0
      go_wp2_with fail
      go_meet
      exact ⟨rfl, Lh (KSAME.out _ K2.out)⟩
     ·
      have hn0I : (0 : Int) < (n : Int) := by omega
      go_upto_region 16 with fail
      obtain ⟨g1, cc, hv, _, _⟩ := K2.out.l.form hn0
      cases hv
      have hkl := hkn hn0
      have hkI : (kx : Int) < (n : Int) := by omega
      obtain ⟨x, hx⟩ : ∃ x, x = L[kx]'(by rw [← HLEN1.out]; exact hkl) := ⟨_, rfl⟩
      have HX := Lh hx
      have HXM := Lh (show x.1.size ≤ M ∧ x.2.size ≤ M by rw [hx]; exact HM.out _ (List.getElem_mem _))
      have HKX := Lh (show (LC L)[kx * 2]? = some (.string x.1) ∧ kx < L.length from ⟨by rw [hx]; exact (LC_at L kx (by rw [← HLEN1.out]; exact hkl)).1, by rw [← HLEN1.out]; exact hkl⟩)
      clear hx q2 q3
      refine wp_region_held (S := fun W => W.cell? ⟨gq, 2, none⟩ = some (.slice (some ⟨g1, 0, none⟩) n d1) ∧ True) (by kernel_rfl) ?_
      change wpAnyH _ _ _ _ _ _ _ _ (World.drew w2)
      have KD := Lh (K2.out.below (Below.refl _ _).drew)
      have hs0 : (World.drew w2).cell? ⟨gq, 2, none⟩ = some (.slice (some ⟨g1, 0, none⟩) n d1) ∧ True := ⟨(KD.out.q.cell 2).trans rfl, trivial⟩
      generalize World.drew w2 = Wd at hs0 KD ⊢
      refine tkH 0 ({ dst := some 80, op := Op.fieldAddr 54 (Operand.tmp 7) 2, type := 0, pos := "ref.go:343", after := #[], guard := none }) (.pointer (some ⟨gq, 2, none⟩)) hs0 (fun W hW => ?y1) ?_
      case y1 => go_simp
      try simp only [zp, zn, z1, z2, z3]
      refine tkH 1 ({ dst := some 81, op := Op.load 24 (Operand.tmp 80), type := 24, pos := "ref.go:343", after := #[dD 0], guard := none }) (.slice (some ⟨g1, 0, none⟩) n d1) hs0 (fun W hW => by have hcl := hW.1; go_simp) ?_
      try simp only [zp, zn, z1, z2, z3]
      refine tkH 2 ({ dst := some 82, op := Op.move (Operand.tmp 8), type := 3, pos := "ref.go:343", after := #[], guard := none }) (.int .i64 (kx : Int)) hs0 (fun W hW => ?y3) ?_
      case y3 => go_simp
      try simp only [zp, zn, z1, z2, z3]
      refine tkH 3 ({ dst := some 83, op := Op.move (Operand.tmp 2), type := 3, pos := "ref.go:343", after := #[], guard := none }) (.int .i64 by_) hs0 (fun W hW => ?y4) ?_
      case y4 => go_simp
      try simp only [zp, zn, z1, z2, z3]
      refine wpAnyH_ready (rs := [4]) (by kernel_rfl) (by simp) ?_
      refine AllReadyH.cons (o := { dst := some 84, op := Op.call { callee := Callee.value (Operand.func 17), args := #[Operand.tmp 83, Operand.const (Value.int IntKind.i64 40)], argTypes := #[3, 3] }, type := 3, pos := "ref.go:343", after := #[dD 3], guard := none }) rfl (fun K hK => ?_) AllReadyH.nil
      rw [if_pos (by rfl)]
      go_simp
      refine (HA40.out _).mono ?_; rintro e wx ⟨rfl, rfl⟩
      go_wp2_with fail
      refine hK.out _ _ hs0 (fun _ => ?_)
      clear hK K
      try simp only [zp, zn, z1, z2, z3]
      refine wpAnyH_ready (rs := [5]) (by kernel_rfl) (by simp) ?_
      refine AllReadyH.cons (o := { dst := some 85, op := Op.call { callee := Callee.value (Operand.func 49), args := #[Operand.tmp 84], argTypes := #[3] }, type := 9, pos := "ref.go:343", after := #[dD 4, dC 4], guard := none }) rfl (fun K hK => ?_) AllReadyH.nil
      rw [if_pos (by rfl)]
      go_simp
      refine (HKEY.out Wd).mono ?_; rintro e w5 ⟨rfl, hb5⟩
      have Q5 := Lh (KD.out.below hb5)
      have hs5 : w5.cell? ⟨gq, 2, none⟩ = some (.slice (some ⟨g1, 0, none⟩) n d1) := (Q5.out.q.cell 2).trans rfl
      have hs5 := And.intro hs5 trivial
      clear hb5
      go_wp2_with fail
      refine hK.out _ _ hs5 (fun _ => ?_)
      clear hK K
      try simp only [zp, zn, z1, z2, z3]
      refine tkH 6 ({ dst := some 86, op := Op.indexAddr 24 (Operand.tmp 81) (Operand.tmp 82), type := 0, pos := "ref.go:343", after := #[dD 1, dD 2, dP 0, dP 1, dP 2, dP 3, dP 4, dP 5], guard := none }) (.pointer (some ⟨g1, kx * 2, none⟩)) hs5 (fun W hW => ?y5) ?_
      case y5 => go_simp
      try simp only [zp, zn, z1, z2, z3]
      refine tkH 7 ({ dst := some 87, op := Op.fieldAddr 87 (Operand.tmp 86) 0, type := 0, pos := "ref.go:343", after := #[dD 6, dP 0, dP 1, dP 2, dP 3, dP 4, dP 5], guard := none }) (.pointer (some ⟨g1, kx * 2, none⟩)) hs5 (fun W hW => ?y6) ?_
      case y6 => go_simp
      try simp only [zp, zn, z1, z2, z3]
      refine wpAnyH_ready (rs := [8]) (by kernel_rfl) (by simp) ?_
      refine AllReadyH.cons (o := { dst := none, op := Op.store 9 (Operand.tmp 87) (Operand.tmp 85), type := 0, pos := "ref.go:343", after := #[dD 7, dD 5, dC 5, dP 0, dP 1, dP 2, dP 3, dP 4, dP 5], guard := none }) rfl (fun K hK => ?_) AllReadyH.nil
      rw [if_pos (by rfl)]
      have c9 : w5.cell? ⟨g1, kx * 2, none⟩ = some (.string x.1) := (own_cellAt Q5.out.l HKX.out.1)
      have f9 : w5.frozen? ⟨g1, kx * 2, none⟩ = false := own_frozen Q5.out.l
      have hs9 : (w5.setCell ⟨g1, kx * 2, none⟩ (.string KK)).cell? ⟨gq, 2, none⟩ = some (.slice (some ⟨g1, 0, none⟩) n d1) := ((Q5.out.q.far (p := ⟨g1, kx * 2, none⟩) (own_far Q5.out.l Q5.out.q) _).cell 2).trans rfl
      have hs9 := And.intro hs9 trivial
      have QF := Lh (Q5.out.set1 (i := kx * 2) (u := .string KK) (L' := L.set kx (KK, x.2)) (by rw [HX.out]; exact LC_set1 L kx HKX.out.2 KK))
      go_simp
      refine hK.out _ _ hs9 (fun _ => ?_)
      clear hK K
      try simp only [zp, zn, z1, z2, z3]
      refine wpAnyH_done (by kernel_rfl) ?_ _
      try simp only [zp, zn, z1, z2, z3]
      go_wp2_with fail
      go_meet
      exact ⟨rfl, Lh (KSET.out _ _ (List.length_set ..) (set_sizes HM.out ⟨by have := HKS.out; show KK.size ≤ M + 2; omega, by have := HXM.out; show x.2.size ≤ M + 2; omega⟩) QF.out)⟩
   ·
    as_aux_lemma =>
     subst hq
     clear HQ HAQ
     go_upto_region 18 with fail
     rcases Nat.eq_zero_or_pos n with hn0 | hn0
     ·
      subst hn0
      go_wp2_with fail
      go_meet
      exact ⟨rfl, Lh (KSAME.out _ K2.out)⟩
     ·
      have hn0I : (0 : Int) < (n : Int) := by omega
      go_upto_region 19 with fail
      obtain ⟨g1, cc, hv, _, _⟩ := K2.out.l.form hn0
      cases hv
      have hkl := hkn hn0
      have hkI : (kx : Int) < (n : Int) := by omega
      obtain ⟨x, hx⟩ : ∃ x, x = L[kx]'(by rw [← HLEN1.out]; exact hkl) := ⟨_, rfl⟩
      have HX := Lh hx
      have HXM := Lh (show x.1.size ≤ M ∧ x.2.size ≤ M by rw [hx]; exact HM.out _ (List.getElem_mem _))
      have hxm : x.2.size ≤ 1073741824 := by have := HXM.out; omega
      have HKX := Lh (show (LC L)[kx * 2 + 1]? = some (.string x.2) ∧ kx < L.length from ⟨by rw [hx]; exact (LC_at L kx (by rw [← HLEN1.out]; exact hkl)).2, by rw [← HLEN1.out]; exact hkl⟩)
      clear hx q2 q3
      refine wp_region_held (S := fun W => W.cell? ⟨gq, 2, none⟩ = some (.slice (some ⟨g1, 0, none⟩) n d1) ∧ True) (by kernel_rfl) ?_
      change wpAnyH _ _ _ _ _ _ _ _ (World.drew w2)
      have KD := Lh (K2.out.below (Below.refl _ _).drew)
      have hs0 : (World.drew w2).cell? ⟨gq, 2, none⟩ = some (.slice (some ⟨g1, 0, none⟩) n d1) ∧ True := ⟨(KD.out.q.cell 2).trans rfl, trivial⟩
      generalize World.drew w2 = Wd at hs0 KD ⊢
      refine tkH 0 ({ dst := some 94, op := Op.fieldAddr 54 (Operand.tmp 7) 2, type := 0, pos := "ref.go:347", after := #[], guard := none }) (.pointer (some ⟨gq, 2, none⟩)) hs0 (fun W hW => ?y1) ?_
      case y1 => go_simp
      try simp only [zp, zn, z1, z2, z3]
      refine tkH 1 ({ dst := some 95, op := Op.load 24 (Operand.tmp 94), type := 24, pos := "ref.go:347", after := #[dD 0], guard := none }) (.slice (some ⟨g1, 0, none⟩) n d1) hs0 (fun W hW => by have hcl := hW.1; go_simp) ?_
      try simp only [zp, zn, z1, z2, z3]
      refine tkH 2 ({ dst := some 96, op := Op.move (Operand.tmp 8), type := 3, pos := "ref.go:347", after := #[], guard := none }) (.int .i64 (kx : Int)) hs0 (fun W hW => ?y3) ?_
      case y3 => go_simp
      try simp only [zp, zn, z1, z2, z3]
      refine tkH 3 ({ dst := some 97, op := Op.fieldAddr 54 (Operand.tmp 7) 2, type := 0, pos := "ref.go:347", after := #[], guard := none }) (.pointer (some ⟨gq, 2, none⟩)) hs0 (fun W hW => ?y4) ?_
      case y4 => go_simp
      try simp only [zp, zn, z1, z2, z3]
      refine tkH 4 ({ dst := some 98, op := Op.load 24 (Operand.tmp 97), type := 24, pos := "ref.go:347", after := #[dD 3], guard := none }) (.slice (some ⟨g1, 0, none⟩) n d1) hs0 (fun W hW => by have hcl := hW.1; go_simp) ?_
      try simp only [zp, zn, z1, z2, z3]
      refine tkH 5 ({ dst := some 99, op := Op.move (Operand.tmp 8), type := 3, pos := "ref.go:347", after := #[], guard := none }) (.int .i64 (kx : Int)) hs0 (fun W hW => ?y6) ?_
      case y6 => go_simp
      try simp only [zp, zn, z1, z2, z3]
      refine tkH 6 ({ dst := some 100, op := Op.indexAddr 24 (Operand.tmp 98) (Operand.tmp 99), type := 0, pos := "ref.go:347", after := #[dD 4, dD 5], guard := none }) (.pointer (some ⟨g1, kx * 2, none⟩)) hs0 (fun W hW => ?y7) ?_
      case y7 => go_simp
      try simp only [zp, zn, z1, z2, z3]
      refine tkH 7 ({ dst := some 101, op := Op.fieldAddr 87 (Operand.tmp 100) 1, type := 0, pos := "ref.go:347", after := #[dD 6], guard := none }) (.pointer (some ⟨g1, kx * 2 + 1, none⟩)) hs0 (fun W hW => ?y8) ?_
      case y8 => go_simp
      try simp only [zp, zn, z1, z2, z3]
      refine wpAnyH_ready (rs := [8]) (by kernel_rfl) (by simp) ?_
      refine AllReadyH.cons (o := { dst := some 102, op := Op.load 9 (Operand.tmp 101), type := 9, pos := "ref.go:347", after := #[dD 7], guard := none }) rfl (fun K hK => ?_) AllReadyH.nil
      rw [if_pos (by rfl)]
      have c8 : Wd.cell? ⟨g1, kx * 2 + 1, none⟩ = some (.string x.2) := own_cellAt KD.out.l HKX.out.1
      go_simp
      refine hK.out _ _ hs0 (fun _ => ?_)
      clear hK K
      try simp only [zp, zn, z1, z2, z3]
      refine tkH 9 ({ dst := some 103, op := Op.binOp BinOp.add 9 (Operand.tmp 102) (Operand.const (Value.string { data := #[120] })) 9, type := 9, pos := "ref.go:347", after := #[dD 8], guard := none }) (.string (x.2 ++ ⟨#[120]⟩)) hs0 (fun W hW => by go_simp; omega) ?_
      try simp only [zp, zn, z1, z2, z3]
      refine tkH 10 ({ dst := some 104, op := Op.indexAddr 24 (Operand.tmp 95) (Operand.tmp 96), type := 0, pos := "ref.go:347", after := #[dD 1, dD 2, dP 0, dP 1, dP 2, dP 3, dP 4, dP 5, dP 6, dP 7, dP 8, dP 9], guard := none }) (.pointer (some ⟨g1, kx * 2, none⟩)) hs0 (fun W hW => ?y10) ?_
      case y10 => go_simp
      try simp only [zp, zn, z1, z2, z3]
      refine tkH 11 ({ dst := some 105, op := Op.fieldAddr 87 (Operand.tmp 104) 1, type := 0, pos := "ref.go:347", after := #[dD 10, dP 0, dP 1, dP 2, dP 3, dP 4, dP 5, dP 6, dP 7, dP 8, dP 9], guard := none }) (.pointer (some ⟨g1, kx * 2 + 1, none⟩)) hs0 (fun W hW => ?y11) ?_
      case y11 => go_simp
      try simp only [zp, zn, z1, z2, z3]
      refine wpAnyH_ready (rs := [12]) (by kernel_rfl) (by simp) ?_
      refine AllReadyH.cons (o := { dst := none, op := Op.store 9 (Operand.tmp 105) (Operand.tmp 103), type := 0, pos := "ref.go:347", after := #[dD 11, dD 9, dP 0, dP 1, dP 2, dP 3, dP 4, dP 5, dP 6, dP 7, dP 8, dP 9], guard := none }) rfl (fun K hK => ?_) AllReadyH.nil
      rw [if_pos (by rfl)]
      have c9 : Wd.cell? ⟨g1, kx * 2 + 1, none⟩ = some (.string x.2) := own_cellAt KD.out.l HKX.out.1
      have f9 : Wd.frozen? ⟨g1, kx * 2 + 1, none⟩ = false := own_frozen KD.out.l
      have hs9 : (Wd.setCell ⟨g1, kx * 2 + 1, none⟩ (.string (x.2 ++ ⟨#[120]⟩))).cell? ⟨gq, 2, none⟩ = some (.slice (some ⟨g1, 0, none⟩) n d1) := ((KD.out.q.far (p := ⟨g1, kx * 2 + 1, none⟩) (own_far KD.out.l KD.out.q) _).cell 2).trans rfl
      have hs9 := And.intro hs9 trivial
      have QF := Lh (KD.out.set1 (i := kx * 2 + 1) (u := .string (x.2 ++ ⟨#[120]⟩)) (L' := L.set kx (x.1, x.2 ++ ⟨#[120]⟩)) (by rw [HX.out]; exact LC_set2 L kx HKX.out.2 _))
      go_simp
      refine hK.out _ _ hs9 (fun _ => ?_)
      clear hK K
      try simp only [zp, zn, z1, z2, z3]
      refine wpAnyH_done (by kernel_rfl) ?_ _
      try simp only [zp, zn, z1, z2, z3]
      go_wp2_with fail
      go_meet
      exact ⟨rfl, Lh (KSET.out _ _ (List.length_set ..) (set_sizes HM.out ⟨by have := HXM.out; show x.1.size ≤ M + 2; omega, by have := HXM.out; show (x.2 ++ ⟨#[120]⟩ : ByteArray).size ≤ M + 2; rw [ByteArray.size_append]; show x.2.size + 1 ≤ M + 2; omega⟩) QF.out)⟩
   ·
    as_aux_lemma =>
     subst hq
     clear HQ HAQ
     go_upto_region 21 with fail
     rcases Nat.eq_zero_or_pos n with hn0 | hn0
     ·
      subst hn0
      go_wp2_with fail
      go_meet
      exact ⟨rfl, Lh (KSAME.out _ K2.out)⟩
     ·
      have hn0I : (0 : Int) < (n : Int) := by omega
      go_upto_region 22 with fail
      obtain ⟨g1, cc, hv, hdc, _⟩ := K2.out.l.form hn0
      cases hv
      have hdc : n ≤ d1 := by obtain ⟨_, _, e1, h1, _, _⟩ := own_form K2.out.l; cases e1; exact h1
      have HDC := Lh hdc
      have hkl := hkn hn0
      have hkI : (kx : Int) < (n : Int) := by omega
      obtain ⟨TAd, hta⟩ : ∃ x, x = TA g1 (kx + 1) d1 := ⟨_, rfl⟩
      have HTA := Lh hta
      have HSL1 := Lh (fun W => slice24h g1 n d1 kx (by omega) W)
      have HSL2 := Lh (fun W => show (Instr.sliceAt 24 (.slice (some ⟨g1, 0, none⟩) n d1) (some (.int .i64 ((kx : Int) + 1))) none none).run Tryd.prog W = .ok (.slice (some TAd) (n - (kx + 1)) (d1 - (kx + 1))) W from by
       rw [hta]; exact slice24l g1 n d1 (kx + 1) (by omega) W)
      have HTL := Lh (show (L.drop (kx + 1)).length = n - (kx + 1) by rw [List.length_drop, ← HLEN1.out])
      have KDEL := Lh (fun W A' c' (h : BQ w f sz (L.take kx ++ L.drop (kx + 1)) S (kx + (n - (kx + 1))) m gq A' c' P2 d2 W) => show BentC w n m M gq W from ⟨f, sz, _, S, _, m, A', c', P2, d2, h, by rw [List.length_append, List.length_take, HTL.out, ← HLEN1.out]; omega, HLEN2.out, H16.out, by omega, by omega, fun x hx => by
       have : x ∈ L := by rcases List.mem_append.1 hx with h1 | h1; exact List.mem_of_mem_take h1; exact List.mem_of_mem_drop h1
       have := HM.out x this; omega, HF.out, HSZI.out⟩)
      clear hta q2 q3 hdc
      refine wp_region_any (by kernel_rfl) ?_
      change wpAny _ _ _ _ _ _ _ (World.drew w2)
      have KD := Lh (K2.out.below (Below.refl _ _).drew)
      generalize World.drew w2 = Wd at KD ⊢
      have HTR := Lh (rd_tail (k := kx + 1) HDC.out HLEN1.out KD.out.l)
      rw [← HTA.out] at HTR
      refine tk 0 ({ dst := some 112, op := Op.fieldAddr 54 (Operand.tmp 7) 2, type := 0, pos := "ref.go:351", after := #[], guard := none }) (.pointer (some ⟨gq, 2, none⟩)) (fun W => ?y56) ?_
      case y56 => go_simp
      try simp only [zp, zn, z1, z2, z3]
      refine tk 2 ({ dst := some 114, op := Op.move (Operand.tmp 8), type := 3, pos := "ref.go:351", after := #[], guard := none }) (.int .i64 (kx : Int)) (fun W => ?y57) ?_
      case y57 => go_simp
      try simp only [zp, zn, z1, z2, z3]
      refine tk 4 ({ dst := some 116, op := Op.fieldAddr 54 (Operand.tmp 7) 2, type := 0, pos := "ref.go:351", after := #[], guard := none }) (.pointer (some ⟨gq, 2, none⟩)) (fun W => ?y58) ?_
      case y58 => go_simp
      try simp only [zp, zn, z1, z2, z3]
      refine tk 6 ({ dst := some 118, op := Op.move (Operand.tmp 8), type := 3, pos := "ref.go:351", after := #[], guard := none }) (.int .i64 (kx : Int)) (fun W => ?y59) ?_
      case y59 => go_simp
      try simp only [zp, zn, z1, z2, z3]
      refine tk 7 ({ dst := some 119, op := Op.binOp BinOp.add 3 (Operand.tmp 118) (Operand.const (Value.int IntKind.i64 1)) 3, type := 3, pos := "ref.go:351", after := #[dD 6], guard := none }) (.int .i64 ((kx : Int) + 1)) (fun W => by have hk2 : (kx : Int) ≤ 100000 := (by omega); go_simp; exact IntWalk.i64_in _ (by omega)) ?_
      try simp only [zp, zn, z1, z2, z3]
      refine wpAny_ready (rs := [1, 5]) (by kernel_rfl) (by simp) ?_
      refine AllReady.cons (o := kBentM_7) rfl (fun K hK => ?_) (AllReady.cons (o := kBentM_8) rfl (fun K hK => ?_) AllReady.nil)
      ·
       rw [if_pos (by rfl)]
       have hcl : Wd.cell? ⟨gq, 2, none⟩ = some (.slice (some ⟨g1, 0, none⟩) n d1) := (KD.out.q.cell 2).trans rfl
       go_simp
       (try (refine hK _ _ ?_; clear hK K))
       try simp only [zp, zn, z1, z2, z3]
       refine tk 3 kBentM_9 (.slice (some ⟨g1, 0, none⟩) kx d1) (fun W => by have hsl := HSL1.out W; go_simp) ?_
       try simp only [zp, zn, z1, z2, z3]
       refine wpAny_ready (rs := [5]) (by kernel_rfl) (by simp) ?_
       refine AllReady.cons (o := kBentM_8) rfl (fun K hK => ?_) AllReady.nil
       rw [if_pos (by rfl)]
       have hcl : Wd.cell? ⟨gq, 2, none⟩ = some (.slice (some ⟨g1, 0, none⟩) n d1) := (KD.out.q.cell 2).trans rfl
       go_simp
       (try (refine hK _ _ ?_; clear hK K))
       try simp only [zp, zn, z1, z2, z3]
       refine tk 8 kBentM_10 (.slice (some TAd) (n - (kx + 1)) (d1 - (kx + 1))) (fun W => by have hsl := HSL2.out W; go_simp) ?_
       try simp only [zp, zn, z1, z2, z3]
       refine wpAny_ready (rs := [9]) (by kernel_rfl) (by simp) ?_
       refine AllReady.cons (o := kBentM_11) rfl (fun K hK => ?_) AllReady.nil
       rw [if_pos (by rfl)]
       refine wp_append_leaves (T := 24) (e := 87) (by kernel_rfl) info87 (.tmp 115) (.tmp 120) rfl (w.heap.size + 2) _ kx _ rfl (own_cut KD.out.l (Nat.le_of_lt hkl) HLEN1.out) (some TAd) (n - (kx + 1)) (d1 - (kx + 1)) _ (L.drop (kx + 1)) rfl (fun e => by cases e) HTL.out HTR.out (by omega) (by have := KD.out.b.size; have := KD.out.z.lt; omega) ?_
       intro v63 w64 ho hg
       have B67 := Lh (blk_other KD.out.q (own_cut KD.out.l (Nat.le_of_lt hkl) HLEN1.out) hg (by decide))
       rw [← LC_append] at ho
       have hho := ho
       obtain ⟨P65, p66, rfl, _, _, _⟩ := own_form hho
       clear hho
       have F68 := Lh (KD.out.grow ((own_cut KD.out.l (Nat.le_of_lt hkl) HLEN1.out)) ho hg)
       clear ho hg
       (try (refine hK _ _ ?_; clear hK K))
       try simp only [zp, zn, z1, z2, z3]
       refine tk 10 kBentM_12 (.pointer (some ⟨gq, 2, none⟩)) (fun W => ?y69) ?_
       case y69 => go_simp
       try simp only [zp, zn, z1, z2, z3]
       refine wpAny_ready (rs := [11]) (by kernel_rfl) (by simp) ?_
       refine AllReady.cons (o := kBentM_13) rfl (fun K hK => ?_) AllReady.nil
       rw [if_pos (by rfl)]
       have c9 : w64.cell? ⟨gq, 2, none⟩ = some (.slice (some ⟨g1, 0, none⟩) n d1) := (B67.out.cell 2).trans rfl
       have f9 : w64.frozen? ⟨gq, 2, none⟩ = false := B67.out.frozen 2
       go_simp
       (try (refine hK _ _ ?_; clear hK K))
       try simp only [zp, zn, z1, z2, z3]
       refine wpAny_done (by kernel_rfl) ?_ _
       try simp only [zp, zn, z1, z2, z3]
       go_wp2_with fail
       go_meet
       exact ⟨rfl, Lh (KDEL.out _ _ _ F68.out)⟩
      ·
       rw [if_pos (by rfl)]
       have hcl : Wd.cell? ⟨gq, 2, none⟩ = some (.slice (some ⟨g1, 0, none⟩) n d1) := (KD.out.q.cell 2).trans rfl
       go_simp
       (try (refine hK _ _ ?_; clear hK K))
       try simp only [zp, zn, z1, z2, z3]
       refine tk 8 kBentM_10 (.slice (some TAd) (n - (kx + 1)) (d1 - (kx + 1))) (fun W => by have hsl := HSL2.out W; go_simp) ?_
       try simp only [zp, zn, z1, z2, z3]
       refine wpAny_ready (rs := [1]) (by kernel_rfl) (by simp) ?_
       refine AllReady.cons (o := kBentM_7) rfl (fun K hK => ?_) AllReady.nil
       rw [if_pos (by rfl)]
       have hcl : Wd.cell? ⟨gq, 2, none⟩ = some (.slice (some ⟨g1, 0, none⟩) n d1) := (KD.out.q.cell 2).trans rfl
       go_simp
       (try (refine hK _ _ ?_; clear hK K))
       try simp only [zp, zn, z1, z2, z3]
       refine tk 3 kBentM_9 (.slice (some ⟨g1, 0, none⟩) kx d1) (fun W => by have hsl := HSL1.out W; go_simp) ?_
       try simp only [zp, zn, z1, z2, z3]
       refine wpAny_ready (rs := [9]) (by kernel_rfl) (by simp) ?_
       refine AllReady.cons (o := kBentM_11) rfl (fun K hK => ?_) AllReady.nil
       rw [if_pos (by rfl)]
       refine wp_append_leaves (T := 24) (e := 87) (by kernel_rfl) info87 (.tmp 115) (.tmp 120) rfl (w.heap.size + 2) _ kx _ rfl (own_cut KD.out.l (Nat.le_of_lt hkl) HLEN1.out) (some TAd) (n - (kx + 1)) (d1 - (kx + 1)) _ (L.drop (kx + 1)) rfl (fun e => by cases e) HTL.out HTR.out (by omega) (by have := KD.out.b.size; have := KD.out.z.lt; omega) ?_
       intro v72 w73 ho hg
       have B76 := Lh (blk_other KD.out.q (own_cut KD.out.l (Nat.le_of_lt hkl) HLEN1.out) hg (by decide))
       rw [← LC_append] at ho
       have hho := ho
       obtain ⟨P74, p75, rfl, _, _, _⟩ := own_form hho
       clear hho
       have F77 := Lh (KD.out.grow ((own_cut KD.out.l (Nat.le_of_lt hkl) HLEN1.out)) ho hg)
       clear ho hg
       (try (refine hK _ _ ?_; clear hK K))
       try simp only [zp, zn, z1, z2, z3]
       refine tk 10 kBentM_12 (.pointer (some ⟨gq, 2, none⟩)) (fun W => ?y78) ?_
       case y78 => go_simp
       try simp only [zp, zn, z1, z2, z3]
       refine wpAny_ready (rs := [11]) (by kernel_rfl) (by simp) ?_
       refine AllReady.cons (o := kBentM_13) rfl (fun K hK => ?_) AllReady.nil
       rw [if_pos (by rfl)]
       have c9 : w73.cell? ⟨gq, 2, none⟩ = some (.slice (some ⟨g1, 0, none⟩) n d1) := (B76.out.cell 2).trans rfl
       have f9 : w73.frozen? ⟨gq, 2, none⟩ = false := B76.out.frozen 2
       go_simp
       (try (refine hK _ _ ?_; clear hK K))
       try simp only [zp, zn, z1, z2, z3]
       refine wpAny_done (by kernel_rfl) ?_ _
       try simp only [zp, zn, z1, z2, z3]
       go_wp2_with fail
       go_meet
       exact ⟨rfl, Lh (KDEL.out _ _ _ F77.out)⟩
   ·
    as_aux_lemma =>
     subst hq
     clear HQ HAQ
     go_upto_region 24 with fail
     have KAPP := Lh (fun W A' c' (h : BQ w f sz (L ++ [(KK, ⟨#[]⟩)]) S (n + 1) m gq A' c' P2 d2 W) => show BentC w n m M gq W from ⟨f, sz, _, S, _, m, A', c', P2, d2, h, by rw [List.length_append, ← HLEN1.out]; rfl, HLEN2.out, H16.out, by omega, by omega, fun x hx => by
       rcases List.mem_append.1 hx with h1 | h1
       ·
        have := HM.out x h1; omega
       ·
        rw [List.mem_singleton] at h1; subst h1; have := HKS.out; exact ⟨by show KK.size ≤ M + 2; omega, by show 0 ≤ M + 2; omega⟩, HF.out, HSZI.out⟩)
     clear q2 q3
     refine wp_region_any (by kernel_rfl) ?_
     change wpAny _ _ _ _ _ _ _ (World.drew w2)
     have KD := Lh (K2.out.below (Below.refl _ _).drew)
     generalize World.drew w2 = Wd at KD ⊢
     refine tk 0 ({ dst := some 125, op := Op.fieldAddr 54 (Operand.tmp 7) 2, type := 0, pos := "ref.go:354", after := #[], guard := none }) (.pointer (some ⟨gq, 2, none⟩)) (fun W => ?y1) ?_
     case y1 => go_simp
     try simp only [zp, zn, z1, z2, z3]
     refine tk 2 ({ dst := some 127, op := Op.move (Operand.tmp 2), type := 3, pos := "ref.go:354", after := #[], guard := none }) (.int .i64 by_) (fun W => ?y2) ?_
     case y2 => go_simp
     try simp only [zp, zn, z1, z2, z3]
     refine wpAny_ready (rs := [1, 3]) (by kernel_rfl) (by simp) ?_
     refine AllReady.cons (o := kBentM_14) rfl (fun K hK => ?_) (AllReady.cons (o := kBentM_15) rfl (fun K hK => ?_) AllReady.nil)
     ·
      rw [if_pos (by rfl)]
      have hcl : Wd.cell? ⟨gq, 2, none⟩ = some (.slice P1 n d1) := (KD.out.q.cell 2).trans rfl
      go_simp
      (try (refine hK _ _ ?_; clear hK K))
      try simp only [zp, zn, z1, z2, z3]
      refine wpAny_ready (rs := [3]) (by kernel_rfl) (by simp) ?_
      refine AllReady.cons (o := kBentM_15) rfl (fun K hK => ?_) AllReady.nil
      rw [if_pos (by rfl)]
      go_simp
      refine (HA40.out _).mono ?_; rintro e wx ⟨rfl, rfl⟩
      go_wp2_with fail
      (try (refine hK _ _ ?_; clear hK K))
      try simp only [zp, zn, z1, z2, z3]
      refine wpAny_ready (rs := [4]) (by kernel_rfl) (by simp) ?_
      refine AllReady.cons (o := kBentM_16) rfl (fun K hK => ?_) AllReady.nil
      rw [if_pos (by rfl)]
      go_simp
      refine (HKEY.out Wd).mono ?_; rintro e w3 ⟨rfl, hb5⟩
      have Q4 := Lh (KD.out.below hb5)
      clear hb5
      go_wp2_with fail
      (try (refine hK _ _ ?_; clear hK K))
      try simp only [zp, zn, z1, z2, z3]
      refine tk 5 kBentM_17 (.agg #[.string KK, .string ⟨#[]⟩]) (fun W => ?y5) ?_
      case y5 => go_simp
      try simp only [zp, zn, z1, z2, z3]
      refine wpAny_ready (rs := [6]) (by kernel_rfl) (by simp) ?_
      refine AllReady.cons (o := kBentM_18) rfl (fun K hK => ?_) AllReady.nil
      rw [if_pos (by rfl)]
      have Q7 := Lh (Q4.out.below ((Below.refl w3.heap.size w3).alloc (Nat.le_refl _) (.cells #[.string KK, .string ⟨#[]⟩] 87)))
      have R8 := Lh (rd_new w3 (LC [(KK, ⟨#[]⟩)]) 87)
      go_simp
      change Hid (Rd (w3.alloc (.cells #[.string KK, .string ⟨#[]⟩] 87)) (w3.alloc (.cells #[.string KK, .string ⟨#[]⟩] 87)).heap.size _ _) at R8
      generalize w3.alloc (.cells #[.string KK, .string ⟨#[]⟩] 87) = w6 at Q7 R8 ⊢
      generalize w3.heap.size = g9 at R8 ⊢
      (try (refine hK _ _ ?_; clear hK K))
      try simp only [zp, zn, z1, z2, z3]
      refine wpAny_ready (rs := [7]) (by kernel_rfl) (by simp) ?_
      refine AllReady.cons (o := kBentM_19) rfl (fun K hK => ?_) AllReady.nil
      rw [if_pos (by rfl)]
      refine wp_append_leaves (T := 24) (e := 87) (by kernel_rfl) info87 (.tmp 126) (.tmp 131) rfl (w.heap.size + 2) _ n _ rfl Q7.out.l (some ⟨g9, 0, none⟩) 1 1 _ [(KK, ⟨#[]⟩)] rfl (fun e => by cases e) rfl R8.out (by omega) (by have := Q7.out.b.size; have := Q7.out.z.lt; omega) ?_
      intro v10 w11 ho hg
      have B14 := Lh (blk_other Q7.out.q Q7.out.l hg (by decide))
      rw [← LC_append] at ho
      have hho := ho
      obtain ⟨P12, p13, rfl, _, _, _⟩ := own_form hho
      clear hho
      have F15 := Lh (Q7.out.grow (Q7.out.l) ho hg)
      clear ho hg
      (try (refine hK _ _ ?_; clear hK K))
      try simp only [zp, zn, z1, z2, z3]
      refine tk 8 kBentM_20 (.pointer (some ⟨gq, 2, none⟩)) (fun W => ?y16) ?_
      case y16 => go_simp
      try simp only [zp, zn, z1, z2, z3]
      refine wpAny_ready (rs := [9]) (by kernel_rfl) (by simp) ?_
      refine AllReady.cons (o := kBentM_21) rfl (fun K hK => ?_) AllReady.nil
      rw [if_pos (by rfl)]
      have c9 : w11.cell? ⟨gq, 2, none⟩ = some (.slice P1 n d1) := (B14.out.cell 2).trans rfl
      have f9 : w11.frozen? ⟨gq, 2, none⟩ = false := B14.out.frozen 2
      go_simp
      (try (refine hK _ _ ?_; clear hK K))
      try simp only [zp, zn, z1, z2, z3]
      refine wpAny_done (by kernel_rfl) ?_ _
      try simp only [zp, zn, z1, z2, z3]
      go_wp2_with fail
      go_meet
      exact ⟨rfl, Lh (KAPP.out _ _ _ F15.out)⟩
     ·
      rw [if_pos (by rfl)]
      go_simp
      refine (HA40.out _).mono ?_; rintro e wx ⟨rfl, rfl⟩
      go_wp2_with fail
      (try (refine hK _ _ ?_; clear hK K))
      try simp only [zp, zn, z1, z2, z3]
      refine wpAny_ready (rs := [1, 4]) (by kernel_rfl) (by simp) ?_
      refine AllReady.cons (o := kBentM_14) rfl (fun K hK => ?_) (AllReady.cons (o := kBentM_16) rfl (fun K hK => ?_) AllReady.nil)
      ·
       rw [if_pos (by rfl)]
       have hcl : Wd.cell? ⟨gq, 2, none⟩ = some (.slice P1 n d1) := (KD.out.q.cell 2).trans rfl
       go_simp
       (try (refine hK _ _ ?_; clear hK K))
       try simp only [zp, zn, z1, z2, z3]
       refine wpAny_ready (rs := [4]) (by kernel_rfl) (by simp) ?_
       refine AllReady.cons (o := kBentM_16) rfl (fun K hK => ?_) AllReady.nil
       rw [if_pos (by rfl)]
       go_simp
       refine (HKEY.out Wd).mono ?_; rintro e w17 ⟨rfl, hb5⟩
       have Q18 := Lh (KD.out.below hb5)
       clear hb5
       go_wp2_with fail
       (try (refine hK _ _ ?_; clear hK K))
       try simp only [zp, zn, z1, z2, z3]
       refine tk 5 kBentM_17 (.agg #[.string KK, .string ⟨#[]⟩]) (fun W => ?y19) ?_
       case y19 => go_simp
       try simp only [zp, zn, z1, z2, z3]
       refine wpAny_ready (rs := [6]) (by kernel_rfl) (by simp) ?_
       refine AllReady.cons (o := kBentM_18) rfl (fun K hK => ?_) AllReady.nil
       rw [if_pos (by rfl)]
       have Q21 := Lh (Q18.out.below ((Below.refl w17.heap.size w17).alloc (Nat.le_refl _) (.cells #[.string KK, .string ⟨#[]⟩] 87)))
       have R22 := Lh (rd_new w17 (LC [(KK, ⟨#[]⟩)]) 87)
       go_simp
       change Hid (Rd (w17.alloc (.cells #[.string KK, .string ⟨#[]⟩] 87)) (w17.alloc (.cells #[.string KK, .string ⟨#[]⟩] 87)).heap.size _ _) at R22
       generalize w17.alloc (.cells #[.string KK, .string ⟨#[]⟩] 87) = w20 at Q21 R22 ⊢
       generalize w17.heap.size = g23 at R22 ⊢
       (try (refine hK _ _ ?_; clear hK K))
       try simp only [zp, zn, z1, z2, z3]
       refine wpAny_ready (rs := [7]) (by kernel_rfl) (by simp) ?_
       refine AllReady.cons (o := kBentM_19) rfl (fun K hK => ?_) AllReady.nil
       rw [if_pos (by rfl)]
       refine wp_append_leaves (T := 24) (e := 87) (by kernel_rfl) info87 (.tmp 126) (.tmp 131) rfl (w.heap.size + 2) _ n _ rfl Q21.out.l (some ⟨g23, 0, none⟩) 1 1 _ [(KK, ⟨#[]⟩)] rfl (fun e => by cases e) rfl R22.out (by omega) (by have := Q21.out.b.size; have := Q21.out.z.lt; omega) ?_
       intro v24 w25 ho hg
       have B28 := Lh (blk_other Q21.out.q Q21.out.l hg (by decide))
       rw [← LC_append] at ho
       have hho := ho
       obtain ⟨P26, p27, rfl, _, _, _⟩ := own_form hho
       clear hho
       have F29 := Lh (Q21.out.grow (Q21.out.l) ho hg)
       clear ho hg
       (try (refine hK _ _ ?_; clear hK K))
       try simp only [zp, zn, z1, z2, z3]
       refine tk 8 kBentM_20 (.pointer (some ⟨gq, 2, none⟩)) (fun W => ?y30) ?_
       case y30 => go_simp
       try simp only [zp, zn, z1, z2, z3]
       refine wpAny_ready (rs := [9]) (by kernel_rfl) (by simp) ?_
       refine AllReady.cons (o := kBentM_21) rfl (fun K hK => ?_) AllReady.nil
       rw [if_pos (by rfl)]
       have c9 : w25.cell? ⟨gq, 2, none⟩ = some (.slice P1 n d1) := (B28.out.cell 2).trans rfl
       have f9 : w25.frozen? ⟨gq, 2, none⟩ = false := B28.out.frozen 2
       go_simp
       (try (refine hK _ _ ?_; clear hK K))
       try simp only [zp, zn, z1, z2, z3]
       refine wpAny_done (by kernel_rfl) ?_ _
       try simp only [zp, zn, z1, z2, z3]
       go_wp2_with fail
       go_meet
       exact ⟨rfl, Lh (KAPP.out _ _ _ F29.out)⟩
      ·
       rw [if_pos (by rfl)]
       go_simp
       refine (HKEY.out Wd).mono ?_; rintro e w31 ⟨rfl, hb5⟩
       have Q32 := Lh (KD.out.below hb5)
       clear hb5
       go_wp2_with fail
       (try (refine hK _ _ ?_; clear hK K))
       try simp only [zp, zn, z1, z2, z3]
       refine tk 5 kBentM_17 (.agg #[.string KK, .string ⟨#[]⟩]) (fun W => ?y33) ?_
       case y33 => go_simp
       try simp only [zp, zn, z1, z2, z3]
       refine wpAny_ready (rs := [1, 6]) (by kernel_rfl) (by simp) ?_
       refine AllReady.cons (o := kBentM_14) rfl (fun K hK => ?_) (AllReady.cons (o := kBentM_18) rfl (fun K hK => ?_) AllReady.nil)
       ·
        rw [if_pos (by rfl)]
        have hcl : w31.cell? ⟨gq, 2, none⟩ = some (.slice P1 n d1) := (Q32.out.q.cell 2).trans rfl
        go_simp
        (try (refine hK _ _ ?_; clear hK K))
        try simp only [zp, zn, z1, z2, z3]
        refine wpAny_ready (rs := [6]) (by kernel_rfl) (by simp) ?_
        refine AllReady.cons (o := kBentM_18) rfl (fun K hK => ?_) AllReady.nil
        rw [if_pos (by rfl)]
        have Q35 := Lh (Q32.out.below ((Below.refl w31.heap.size w31).alloc (Nat.le_refl _) (.cells #[.string KK, .string ⟨#[]⟩] 87)))
        have R36 := Lh (rd_new w31 (LC [(KK, ⟨#[]⟩)]) 87)
        go_simp
        change Hid (Rd (w31.alloc (.cells #[.string KK, .string ⟨#[]⟩] 87)) (w31.alloc (.cells #[.string KK, .string ⟨#[]⟩] 87)).heap.size _ _) at R36
        generalize w31.alloc (.cells #[.string KK, .string ⟨#[]⟩] 87) = w34 at Q35 R36 ⊢
        generalize w31.heap.size = g37 at R36 ⊢
        (try (refine hK _ _ ?_; clear hK K))
        try simp only [zp, zn, z1, z2, z3]
        refine wpAny_ready (rs := [7]) (by kernel_rfl) (by simp) ?_
        refine AllReady.cons (o := kBentM_19) rfl (fun K hK => ?_) AllReady.nil
        rw [if_pos (by rfl)]
        refine wp_append_leaves (T := 24) (e := 87) (by kernel_rfl) info87 (.tmp 126) (.tmp 131) rfl (w.heap.size + 2) _ n _ rfl Q35.out.l (some ⟨g37, 0, none⟩) 1 1 _ [(KK, ⟨#[]⟩)] rfl (fun e => by cases e) rfl R36.out (by omega) (by have := Q35.out.b.size; have := Q35.out.z.lt; omega) ?_
        intro v38 w39 ho hg
        have B42 := Lh (blk_other Q35.out.q Q35.out.l hg (by decide))
        rw [← LC_append] at ho
        have hho := ho
        obtain ⟨P40, p41, rfl, _, _, _⟩ := own_form hho
        clear hho
        have F43 := Lh (Q35.out.grow (Q35.out.l) ho hg)
        clear ho hg
        (try (refine hK _ _ ?_; clear hK K))
        try simp only [zp, zn, z1, z2, z3]
        refine tk 8 kBentM_20 (.pointer (some ⟨gq, 2, none⟩)) (fun W => ?y44) ?_
        case y44 => go_simp
        try simp only [zp, zn, z1, z2, z3]
        refine wpAny_ready (rs := [9]) (by kernel_rfl) (by simp) ?_
        refine AllReady.cons (o := kBentM_21) rfl (fun K hK => ?_) AllReady.nil
        rw [if_pos (by rfl)]
        have c9 : w39.cell? ⟨gq, 2, none⟩ = some (.slice P1 n d1) := (B42.out.cell 2).trans rfl
        have f9 : w39.frozen? ⟨gq, 2, none⟩ = false := B42.out.frozen 2
        go_simp
        (try (refine hK _ _ ?_; clear hK K))
        try simp only [zp, zn, z1, z2, z3]
        refine wpAny_done (by kernel_rfl) ?_ _
        try simp only [zp, zn, z1, z2, z3]
        go_wp2_with fail
        go_meet
        exact ⟨rfl, Lh (KAPP.out _ _ _ F43.out)⟩
       ·
        rw [if_pos (by rfl)]
        have Q46 := Lh (Q32.out.below ((Below.refl w31.heap.size w31).alloc (Nat.le_refl _) (.cells #[.string KK, .string ⟨#[]⟩] 87)))
        have R47 := Lh (rd_new w31 (LC [(KK, ⟨#[]⟩)]) 87)
        go_simp
        change Hid (Rd (w31.alloc (.cells #[.string KK, .string ⟨#[]⟩] 87)) (w31.alloc (.cells #[.string KK, .string ⟨#[]⟩] 87)).heap.size _ _) at R47
        generalize w31.alloc (.cells #[.string KK, .string ⟨#[]⟩] 87) = w45 at Q46 R47 ⊢
        generalize w31.heap.size = g48 at R47 ⊢
        (try (refine hK _ _ ?_; clear hK K))
        try simp only [zp, zn, z1, z2, z3]
        refine wpAny_ready (rs := [1]) (by kernel_rfl) (by simp) ?_
        refine AllReady.cons (o := kBentM_14) rfl (fun K hK => ?_) AllReady.nil
        rw [if_pos (by rfl)]
        have hcl : w45.cell? ⟨gq, 2, none⟩ = some (.slice P1 n d1) := (Q46.out.q.cell 2).trans rfl
        go_simp
        (try (refine hK _ _ ?_; clear hK K))
        try simp only [zp, zn, z1, z2, z3]
        refine wpAny_ready (rs := [7]) (by kernel_rfl) (by simp) ?_
        refine AllReady.cons (o := kBentM_19) rfl (fun K hK => ?_) AllReady.nil
        rw [if_pos (by rfl)]
        refine wp_append_leaves (T := 24) (e := 87) (by kernel_rfl) info87 (.tmp 126) (.tmp 131) rfl (w.heap.size + 2) _ n _ rfl Q46.out.l (some ⟨g48, 0, none⟩) 1 1 _ [(KK, ⟨#[]⟩)] rfl (fun e => by cases e) rfl R47.out (by omega) (by have := Q46.out.b.size; have := Q46.out.z.lt; omega) ?_
        intro v49 w50 ho hg
        have B53 := Lh (blk_other Q46.out.q Q46.out.l hg (by decide))
        rw [← LC_append] at ho
        have hho := ho
        obtain ⟨P51, p52, rfl, _, _, _⟩ := own_form hho
        clear hho
        have F54 := Lh (Q46.out.grow (Q46.out.l) ho hg)
        clear ho hg
        (try (refine hK _ _ ?_; clear hK K))
        try simp only [zp, zn, z1, z2, z3]
        refine tk 8 kBentM_20 (.pointer (some ⟨gq, 2, none⟩)) (fun W => ?y55) ?_
        case y55 => go_simp
        try simp only [zp, zn, z1, z2, z3]
        refine wpAny_ready (rs := [9]) (by kernel_rfl) (by simp) ?_
        refine AllReady.cons (o := kBentM_21) rfl (fun K hK => ?_) AllReady.nil
        rw [if_pos (by rfl)]
        have c9 : w50.cell? ⟨gq, 2, none⟩ = some (.slice P1 n d1) := (B53.out.cell 2).trans rfl
        have f9 : w50.frozen? ⟨gq, 2, none⟩ = false := B53.out.frozen 2
        go_simp
        (try (refine hK _ _ ?_; clear hK K))
        try simp only [zp, zn, z1, z2, z3]
        refine wpAny_done (by kernel_rfl) ?_ _
        try simp only [zp, zn, z1, z2, z3]
        go_wp2_with fail
        go_meet
        exact ⟨rfl, Lh (KAPP.out _ _ _ F54.out)⟩
   ·
    as_aux_lemma =>
     subst hq
     clear HQ HAQ
     go_upto_region 7 with fail
     clear q2 q3
     have KNUM := Lh (fun W f' sz' (h1 : okInt f') (h2 : okInt sz') (h : BQ w f' sz' L S n m gq P1 d1 P2 d2 W) => show BentC w n m M gq W from ⟨f', sz', L, S, n, m, P1, d1, P2, d2, h, HLEN1.out, HLEN2.out, H16.out, by omega, by omega, fun x hx => by have := HM.out x hx; omega, h1, h2⟩)
     obtain ⟨FV, hfv⟩ : ∃ y, IntKind.i64.wrap (IntKind.i64.wrap (f + (a5 : Int)) - 2) = y := ⟨_, rfl⟩
     have HFV := Lh hfv
     have HFV2 := Lh (show okInt FV by rw [← hfv]; exact wrap_ok _)
     clear hfv
     refine wp_region_any (by kernel_rfl) ?_
     change wpAny _ _ _ _ _ _ _ (World.drew w2)
     have KD := Lh (K2.out.below (Below.refl _ _).drew)
     generalize World.drew w2 = Wd at KD ⊢
     refine tk 0 ({ dst := some 45, op := Op.fieldAddr 54 (Operand.tmp 7) 0, type := 0, pos := "ref.go:334", after := #[], guard := none }) (.pointer (some ⟨gq, 0, none⟩)) (fun W => ?y1) ?_
     case y1 => go_simp
     try simp only [zp, zn, z1, z2, z3]
     refine tk 2 ({ dst := some 47, op := Op.move (Operand.tmp 2), type := 3, pos := "ref.go:334", after := #[], guard := none }) (.int .i64 by_) (fun W => ?y2) ?_
     case y2 => go_simp
     try simp only [zp, zn, z1, z2, z3]
     refine wpAny_ready (rs := [1, 3]) (by kernel_rfl) (by simp) ?_
     refine AllReady.cons (o := kBentM_22) rfl (fun K hK => ?_) (AllReady.cons (o := kBentM_23) rfl (fun K hK => ?_) AllReady.nil)
     ·
      rw [if_pos (by rfl)]
      have hcl : Wd.cell? ⟨gq, 0, none⟩ = some (.int .i64 f) := (KD.out.q.cell 0).trans rfl
      go_simp
      (try (refine hK _ _ ?_; clear hK K))
      try simp only [zp, zn, z1, z2, z3]
      refine wpAny_ready (rs := [3]) (by kernel_rfl) (by simp) ?_
      refine AllReady.cons (o := kBentM_23) rfl (fun K hK => ?_) AllReady.nil
      rw [if_pos (by rfl)]
      go_simp
      refine (HA5.out _).mono ?_; rintro e wx ⟨rfl, rfl⟩
      go_wp2_with fail
      (try (refine hK _ _ ?_; clear hK K))
      try simp only [zp, zn, z1, z2, z3]
      refine tk 4 kBentM_24 (.int .i64 (IntKind.i64.wrap (f + (a5 : Int)))) (fun W => ?y3) ?_
      case y3 => go_simp
      try simp only [zp, zn, z1, z2, z3]
      refine tk 5 kBentM_25 (.int .i64 FV) (fun W => by go_simp; exact HFV.out) ?_
      try simp only [zp, zn, z1, z2, z3]
      refine tk 6 kBentM_26 (.pointer (some ⟨gq, 0, none⟩)) (fun W => ?y5) ?_
      case y5 => go_simp
      try simp only [zp, zn, z1, z2, z3]
      refine wpAny_ready (rs := [7]) (by kernel_rfl) (by simp) ?_
      refine AllReady.cons (o := kBentM_27) rfl (fun K hK => ?_) AllReady.nil
      rw [if_pos (by rfl)]
      have c9 : Wd.cell? ⟨gq, 0, none⟩ = some (.int .i64 f) := (KD.out.q.cell 0).trans rfl
      have f9 : Wd.frozen? ⟨gq, 0, none⟩ = false := KD.out.q.frozen 0
      go_simp
      (try (refine hK _ _ ?_; clear hK K))
      try simp only [zp, zn, z1, z2, z3]
      refine wpAny_done (by kernel_rfl) ?_ _
      try simp only [zp, zn, z1, z2, z3]
      go_wp2_with fail
      go_meet
      exact ⟨rfl, Lh (KNUM.out _ FV sz HFV2.out HSZI.out (KD.out.setF FV))⟩
     ·
      rw [if_pos (by rfl)]
      go_simp
      refine (HA5.out _).mono ?_; rintro e wx ⟨rfl, rfl⟩
      go_wp2_with fail
      (try (refine hK _ _ ?_; clear hK K))
      try simp only [zp, zn, z1, z2, z3]
      refine wpAny_ready (rs := [1]) (by kernel_rfl) (by simp) ?_
      refine AllReady.cons (o := kBentM_22) rfl (fun K hK => ?_) AllReady.nil
      rw [if_pos (by rfl)]
      have hcl : Wd.cell? ⟨gq, 0, none⟩ = some (.int .i64 f) := (KD.out.q.cell 0).trans rfl
      go_simp
      (try (refine hK _ _ ?_; clear hK K))
      try simp only [zp, zn, z1, z2, z3]
      refine tk 4 kBentM_24 (.int .i64 (IntKind.i64.wrap (f + (a5 : Int)))) (fun W => ?y6) ?_
      case y6 => go_simp
      try simp only [zp, zn, z1, z2, z3]
      refine tk 5 kBentM_25 (.int .i64 FV) (fun W => by go_simp; exact HFV.out) ?_
      try simp only [zp, zn, z1, z2, z3]
      refine tk 6 kBentM_26 (.pointer (some ⟨gq, 0, none⟩)) (fun W => ?y8) ?_
      case y8 => go_simp
      try simp only [zp, zn, z1, z2, z3]
      refine wpAny_ready (rs := [7]) (by kernel_rfl) (by simp) ?_
      refine AllReady.cons (o := kBentM_27) rfl (fun K hK => ?_) AllReady.nil
      rw [if_pos (by rfl)]
      have c9 : Wd.cell? ⟨gq, 0, none⟩ = some (.int .i64 f) := (KD.out.q.cell 0).trans rfl
      have f9 : Wd.frozen? ⟨gq, 0, none⟩ = false := KD.out.q.frozen 0
      go_simp
      (try (refine hK _ _ ?_; clear hK K))
      try simp only [zp, zn, z1, z2, z3]
      refine wpAny_done (by kernel_rfl) ?_ _
      try simp only [zp, zn, z1, z2, z3]
      go_wp2_with fail
      go_meet
      exact ⟨rfl, Lh (KNUM.out _ FV sz HFV2.out HSZI.out (KD.out.setF FV))⟩
   ·
    as_aux_lemma =>
     subst hq
     clear HQ HAQ
     go_upto_region 9 with fail
     clear q2 q3
     have KNUM := Lh (fun W f' sz' (h1 : okInt f') (h2 : okInt sz') (h : BQ w f' sz' L S n m gq P1 d1 P2 d2 W) => show BentC w n m M gq W from ⟨f', sz', L, S, n, m, P1, d1, P2, d2, h, HLEN1.out, HLEN2.out, H16.out, by omega, by omega, fun x hx => by have := HM.out x hx; omega, h1, h2⟩)
     obtain ⟨FV, hfv⟩ : ∃ y, IntKind.i64.wrap (IntKind.i64.wrap (sz + (a5 : Int)) - 2) = y := ⟨_, rfl⟩
     have HFV := Lh hfv
     have HFV2 := Lh (show okInt FV by rw [← hfv]; exact wrap_ok _)
     clear hfv
     refine wp_region_any (by kernel_rfl) ?_
     change wpAny _ _ _ _ _ _ _ (World.drew w2)
     have KD := Lh (K2.out.below (Below.refl _ _).drew)
     generalize World.drew w2 = Wd at KD ⊢
     refine tk 0 ({ dst := some 54, op := Op.fieldAddr 54 (Operand.tmp 7) 1, type := 0, pos := "ref.go:336", after := #[], guard := none }) (.pointer (some ⟨gq, 1, none⟩)) (fun W => ?y1) ?_
     case y1 => go_simp
     try simp only [zp, zn, z1, z2, z3]
     refine tk 2 ({ dst := some 56, op := Op.move (Operand.tmp 2), type := 3, pos := "ref.go:336", after := #[], guard := none }) (.int .i64 by_) (fun W => ?y2) ?_
     case y2 => go_simp
     try simp only [zp, zn, z1, z2, z3]
     refine wpAny_ready (rs := [1, 3]) (by kernel_rfl) (by simp) ?_
     refine AllReady.cons (o := kBentM_28) rfl (fun K hK => ?_) (AllReady.cons (o := kBentM_29) rfl (fun K hK => ?_) AllReady.nil)
     ·
      rw [if_pos (by rfl)]
      have hcl : Wd.cell? ⟨gq, 1, none⟩ = some (.int .i64 sz) := (KD.out.q.cell 1).trans rfl
      go_simp
      (try (refine hK _ _ ?_; clear hK K))
      try simp only [zp, zn, z1, z2, z3]
      refine wpAny_ready (rs := [3]) (by kernel_rfl) (by simp) ?_
      refine AllReady.cons (o := kBentM_29) rfl (fun K hK => ?_) AllReady.nil
      rw [if_pos (by rfl)]
      go_simp
      refine (HA5.out _).mono ?_; rintro e wx ⟨rfl, rfl⟩
      go_wp2_with fail
      (try (refine hK _ _ ?_; clear hK K))
      try simp only [zp, zn, z1, z2, z3]
      refine tk 4 kBentM_30 (.int .i64 (IntKind.i64.wrap (sz + (a5 : Int)))) (fun W => ?y3) ?_
      case y3 => go_simp
      try simp only [zp, zn, z1, z2, z3]
      refine tk 5 kBentM_31 (.int .i64 FV) (fun W => by go_simp; exact HFV.out) ?_
      try simp only [zp, zn, z1, z2, z3]
      refine tk 6 kBentM_32 (.pointer (some ⟨gq, 1, none⟩)) (fun W => ?y5) ?_
      case y5 => go_simp
      try simp only [zp, zn, z1, z2, z3]
      refine wpAny_ready (rs := [7]) (by kernel_rfl) (by simp) ?_
      refine AllReady.cons (o := kBentM_33) rfl (fun K hK => ?_) AllReady.nil
      rw [if_pos (by rfl)]
      have c9 : Wd.cell? ⟨gq, 1, none⟩ = some (.int .i64 sz) := (KD.out.q.cell 1).trans rfl
      have f9 : Wd.frozen? ⟨gq, 1, none⟩ = false := KD.out.q.frozen 1
      go_simp
      (try (refine hK _ _ ?_; clear hK K))
      try simp only [zp, zn, z1, z2, z3]
      refine wpAny_done (by kernel_rfl) ?_ _
      try simp only [zp, zn, z1, z2, z3]
      go_wp2_with fail
      go_meet
      exact ⟨rfl, Lh (KNUM.out _ f FV HF.out HFV2.out (KD.out.setZ FV))⟩
     ·
      rw [if_pos (by rfl)]
      go_simp
      refine (HA5.out _).mono ?_; rintro e wx ⟨rfl, rfl⟩
      go_wp2_with fail
      (try (refine hK _ _ ?_; clear hK K))
      try simp only [zp, zn, z1, z2, z3]
      refine wpAny_ready (rs := [1]) (by kernel_rfl) (by simp) ?_
      refine AllReady.cons (o := kBentM_28) rfl (fun K hK => ?_) AllReady.nil
      rw [if_pos (by rfl)]
      have hcl : Wd.cell? ⟨gq, 1, none⟩ = some (.int .i64 sz) := (KD.out.q.cell 1).trans rfl
      go_simp
      (try (refine hK _ _ ?_; clear hK K))
      try simp only [zp, zn, z1, z2, z3]
      refine tk 4 kBentM_30 (.int .i64 (IntKind.i64.wrap (sz + (a5 : Int)))) (fun W => ?y6) ?_
      case y6 => go_simp
      try simp only [zp, zn, z1, z2, z3]
      refine tk 5 kBentM_31 (.int .i64 FV) (fun W => by go_simp; exact HFV.out) ?_
      try simp only [zp, zn, z1, z2, z3]
      refine tk 6 kBentM_32 (.pointer (some ⟨gq, 1, none⟩)) (fun W => ?y8) ?_
      case y8 => go_simp
      try simp only [zp, zn, z1, z2, z3]
      refine wpAny_ready (rs := [7]) (by kernel_rfl) (by simp) ?_
      refine AllReady.cons (o := kBentM_33) rfl (fun K hK => ?_) AllReady.nil
      rw [if_pos (by rfl)]
      have c9 : Wd.cell? ⟨gq, 1, none⟩ = some (.int .i64 sz) := (KD.out.q.cell 1).trans rfl
      have f9 : Wd.frozen? ⟨gq, 1, none⟩ = false := KD.out.q.frozen 1
      go_simp
      (try (refine hK _ _ ?_; clear hK K))
      try simp only [zp, zn, z1, z2, z3]
      refine wpAny_done (by kernel_rfl) ?_ _
      try simp only [zp, zn, z1, z2, z3]
      go_wp2_with fail
      go_meet
      exact ⟨rfl, Lh (KNUM.out _ f FV HF.out HFV2.out (KD.out.setZ FV))⟩
   ·
    as_aux_lemma =>
     subst hq
     clear HQ HAQ
     have KNUM := Lh (fun W f' sz' (h1 : okInt f') (h2 : okInt sz') (h : BQ w f' sz' L S n m gq P1 d1 P2 d2 W) => show BentC w n m M gq W from ⟨f', sz', L, S, n, m, P1, d1, P2, d2, h, HLEN1.out, HLEN2.out, H16.out, by omega, by omega, fun x hx => by have := HM.out x hx; omega, h1, h2⟩)
     have c9 : w2.cell? ⟨gq, 0, none⟩ = some (.int .i64 f) := (K2.out.q.cell 0).trans rfl
     have f9 : w2.frozen? ⟨gq, 0, none⟩ = false := K2.out.q.frozen 0
     go_wp2_with fail
     go_meet
     exact ⟨rfl, Lh (KNUM.out _ by_ sz HBY.out HSZI.out (K2.out.setF by_))⟩
   ·
    as_aux_lemma =>
     subst hq
     clear HQ HAQ
     have KNUM := Lh (fun W f' sz' (h1 : okInt f') (h2 : okInt sz') (h : BQ w f' sz' L S n m gq P1 d1 P2 d2 W) => show BentC w n m M gq W from ⟨f', sz', L, S, n, m, P1, d1, P2, d2, h, HLEN1.out, HLEN2.out, H16.out, by omega, by omega, fun x hx => by have := HM.out x hx; omega, h1, h2⟩)
     have KA := Lh (K2.out.below ((Below.refl w2.heap.size w2).alloc (Nat.le_refl _) (.cells #[.int .i64 by_, .int .i64 4096, .int .i64 4097, .int .i64 (-1)] 3)))
     have c9 : (w2.alloc (.cells #[.int .i64 by_, .int .i64 4096, .int .i64 4097, .int .i64 (-1)] 3)).cell? ⟨gq, 1, none⟩ = some (.int .i64 sz) := (KA.out.q.cell 1).trans rfl
     have f9 : (w2.alloc (.cells #[.int .i64 by_, .int .i64 4096, .int .i64 4097, .int .i64 (-1)] 3)).frozen? ⟨gq, 1, none⟩ = false := KA.out.q.frozen 1
     clear q2 q3
     rcases (show a4 = 0 ∨ a4 = 1 ∨ a4 = 2 ∨ a4 = 3 by omega) with ha | ha | ha | ha <;> subst ha
     ·
      have e9 : (w2.alloc (.cells #[.int .i64 by_, .int .i64 4096, .int .i64 4097, .int .i64 (-1)] 3)).cell? ⟨w2.heap.size, 0, none⟩ = some (.int .i64 by_) := (cell_of_row _ _ 0 _ _ _ (heap_alloc_new w2 _)).trans rfl
      go_wp2_with (go_at_call 17; refine (HA4.out _).mono ?_; rintro e wx ⟨rfl, rfl⟩)
      go_meet
      exact ⟨rfl, Lh (KNUM.out _ f by_ HF.out HBY.out (KA.out.setZ by_))⟩
     ·
      have e9 : (w2.alloc (.cells #[.int .i64 by_, .int .i64 4096, .int .i64 4097, .int .i64 (-1)] 3)).cell? ⟨w2.heap.size, 1, none⟩ = some (.int .i64 4096) := (cell_of_row _ _ 1 _ _ _ (heap_alloc_new w2 _)).trans rfl
      go_wp2_with (go_at_call 17; refine (HA4.out _).mono ?_; rintro e wx ⟨rfl, rfl⟩)
      go_meet
      exact ⟨rfl, Lh (KNUM.out _ f 4096 HF.out (by unfold okInt; omega) (KA.out.setZ 4096))⟩
     ·
      have e9 : (w2.alloc (.cells #[.int .i64 by_, .int .i64 4096, .int .i64 4097, .int .i64 (-1)] 3)).cell? ⟨w2.heap.size, 2, none⟩ = some (.int .i64 4097) := (cell_of_row _ _ 2 _ _ _ (heap_alloc_new w2 _)).trans rfl
      go_wp2_with (go_at_call 17; refine (HA4.out _).mono ?_; rintro e wx ⟨rfl, rfl⟩)
      go_meet
      exact ⟨rfl, Lh (KNUM.out _ f 4097 HF.out (by unfold okInt; omega) (KA.out.setZ 4097))⟩
     ·
      have e9 : (w2.alloc (.cells #[.int .i64 by_, .int .i64 4096, .int .i64 4097, .int .i64 (-1)] 3)).cell? ⟨w2.heap.size, 3, none⟩ = some (.int .i64 (-1)) := (cell_of_row _ _ 3 _ _ _ (heap_alloc_new w2 _)).trans rfl
      go_wp2_with (go_at_call 17; refine (HA4.out _).mono ?_; rintro e wx ⟨rfl, rfl⟩)
      go_meet
      exact ⟨rfl, Lh (KNUM.out _ f (-1) HF.out (by unfold okInt; omega) (KA.out.setZ (-1)))⟩
   ·
    as_aux_lemma =>
     subst hq
     clear HQ HAQ
     go_upto_region 29 with fail
     rcases Nat.eq_zero_or_pos m with hn0 | hn0
     ·
      subst hn0
      go_wp2_with fail
      go_meet
      exact ⟨rfl, Lh (KSAME.out _ K2.out)⟩
     ·
      have hn0I : (0 : Int) < (m : Int) := by omega
      go_upto_region 30 with fail
      obtain ⟨g1, cc, hv, hdc, _⟩ := K2.out.s.form hn0
      cases hv
      have hdc : m ≤ d2 := by obtain ⟨_, _, e1, h1, _, _⟩ := own_form K2.out.s; cases e1; exact h1
      have HDC := Lh hdc
      have hkl := hjm hn0
      have hkI : (jx : Int) < (m : Int) := by omega
      obtain ⟨TAd, hta⟩ : ∃ x, x = TS g1 (jx + 1) d2 := ⟨_, rfl⟩
      have HTA := Lh hta
      have HSL1 := Lh (fun W => slice48h g1 m d2 jx (by omega) W)
      have HSL2 := Lh (fun W => show (Instr.sliceAt 48 (.slice (some ⟨g1, 0, none⟩) m d2) (some (.int .i64 ((jx : Int) + 1))) none none).run Tryd.prog W = .ok (.slice (some TAd) (m - (jx + 1)) (d2 - (jx + 1))) W from by
       rw [hta]; exact slice48l g1 m d2 (jx + 1) (by omega) W)
      have HTL := Lh (show (S.drop (jx + 1)).length = m - (jx + 1) by rw [List.length_drop, ← HLEN2.out])
      have HD16 := Lh (show ∀ d ∈ S.drop (jx + 1), d.length = 16 from fun d hd => H16.out d (List.mem_of_mem_drop hd))
      have KDEL := Lh (fun W A' c' (h : BQ w f sz L (S.take jx ++ S.drop (jx + 1)) n (jx + (m - (jx + 1))) gq P1 d1 A' c' W) => show BentC w n m M gq W from ⟨f, sz, L, _, n, _, P1, d1, A', c', h, HLEN1.out, by rw [List.length_append, List.length_take, HTL.out, ← HLEN2.out]; omega, fun d hd => by
       rcases List.mem_append.1 hd with h1 | h1
       ·
        exact H16.out d (List.mem_of_mem_take h1)
       ·
        exact HD16.out d h1, by omega, by omega, fun x hx => by have := HM.out x hx; omega, HF.out, HSZI.out⟩)
      clear hta q2 q3 hdc
      refine wp_region_any (by kernel_rfl) ?_
      change wpAny _ _ _ _ _ _ _ (World.drew w2)
      have KD := Lh (K2.out.below (Below.refl _ _).drew)
      generalize World.drew w2 = Wd at KD ⊢
      have HTR := Lh (rd_tailS (k := jx + 1) H16.out HDC.out HLEN2.out KD.out.s)
      rw [← HTA.out] at HTR
      refine tk 0 ({ dst := some 158, op := Op.fieldAddr 54 (Operand.tmp 7) 3, type := 0, pos := "ref.go:361", after := #[], guard := none }) (.pointer (some ⟨gq, 3, none⟩)) (fun W => ?y1) ?_
      case y1 => go_simp
      try simp only [zp, zn, z1, z2, z3]
      refine tk 2 ({ dst := some 160, op := Op.move (Operand.tmp 9), type := 3, pos := "ref.go:361", after := #[], guard := none }) (.int .i64 (jx : Int)) (fun W => ?y2) ?_
      case y2 => go_simp
      try simp only [zp, zn, z1, z2, z3]
      refine tk 4 ({ dst := some 162, op := Op.fieldAddr 54 (Operand.tmp 7) 3, type := 0, pos := "ref.go:361", after := #[], guard := none }) (.pointer (some ⟨gq, 3, none⟩)) (fun W => ?y3) ?_
      case y3 => go_simp
      try simp only [zp, zn, z1, z2, z3]
      refine tk 6 ({ dst := some 164, op := Op.move (Operand.tmp 9), type := 3, pos := "ref.go:361", after := #[], guard := none }) (.int .i64 (jx : Int)) (fun W => ?y4) ?_
      case y4 => go_simp
      try simp only [zp, zn, z1, z2, z3]
      refine tk 7 ({ dst := some 165, op := Op.binOp BinOp.add 3 (Operand.tmp 164) (Operand.const (Value.int IntKind.i64 1)) 3, type := 3, pos := "ref.go:361", after := #[dD 6], guard := none }) (.int .i64 ((jx : Int) + 1)) (fun W => by have hk2 : (jx : Int) ≤ 100000 := (by omega); go_simp; exact IntWalk.i64_in _ (by omega)) ?_
      try simp only [zp, zn, z1, z2, z3]
      refine wpAny_ready (rs := [1, 5]) (by kernel_rfl) (by simp) ?_
      refine AllReady.cons (o := kBentM_34) rfl (fun K hK => ?_) (AllReady.cons (o := kBentM_35) rfl (fun K hK => ?_) AllReady.nil)
      ·
       rw [if_pos (by rfl)]
       have hcl : Wd.cell? ⟨gq, 3, none⟩ = some (.slice (some ⟨g1, 0, none⟩) m d2) := (KD.out.q.cell 3).trans rfl
       go_simp
       (try (refine hK _ _ ?_; clear hK K))
       try simp only [zp, zn, z1, z2, z3]
       refine tk 3 kBentM_36 (.slice (some ⟨g1, 0, none⟩) jx d2) (fun W => by have hsl := HSL1.out W; go_simp) ?_
       try simp only [zp, zn, z1, z2, z3]
       refine wpAny_ready (rs := [5]) (by kernel_rfl) (by simp) ?_
       refine AllReady.cons (o := kBentM_35) rfl (fun K hK => ?_) AllReady.nil
       rw [if_pos (by rfl)]
       have hcl : Wd.cell? ⟨gq, 3, none⟩ = some (.slice (some ⟨g1, 0, none⟩) m d2) := (KD.out.q.cell 3).trans rfl
       go_simp
       (try (refine hK _ _ ?_; clear hK K))
       try simp only [zp, zn, z1, z2, z3]
       refine tk 8 kBentM_37 (.slice (some TAd) (m - (jx + 1)) (d2 - (jx + 1))) (fun W => by have hsl := HSL2.out W; go_simp) ?_
       try simp only [zp, zn, z1, z2, z3]
       refine wpAny_ready (rs := [9]) (by kernel_rfl) (by simp) ?_
       refine AllReady.cons (o := kBentM_38) rfl (fun K hK => ?_) AllReady.nil
       rw [if_pos (by rfl)]
       refine wp_append_digs (.tmp 161) (.tmp 166) rfl (w.heap.size + 2) _ jx _ rfl (own_cutS KD.out.s H16.out (Nat.le_of_lt hkl) HLEN2.out) (some TAd) (m - (jx + 1)) (d2 - (jx + 1)) _ (S.drop (jx + 1)) rfl (fun e => by cases e) HTL.out HD16.out HTR.out (by omega) (by have := KD.out.b.size; have := KD.out.z.lt; omega) ?_
       intro v8 w9 ho hg
       have B12 := Lh (blk_other KD.out.q (own_cutS KD.out.s H16.out (Nat.le_of_lt hkl) HLEN2.out) hg (by decide))
       rw [← B8_append, ← List.flatten_append] at ho
       have hho := ho
       obtain ⟨P10, p11, rfl, _, _, _⟩ := own_form hho
       clear hho
       have F13 := Lh (KD.out.growS ((own_cutS KD.out.s H16.out (Nat.le_of_lt hkl) HLEN2.out)) ho hg)
       clear ho hg
       (try (refine hK _ _ ?_; clear hK K))
       try simp only [zp, zn, z1, z2, z3]
       refine tk 10 kBentM_39 (.pointer (some ⟨gq, 3, none⟩)) (fun W => ?y14) ?_
       case y14 => go_simp
       try simp only [zp, zn, z1, z2, z3]
       refine wpAny_ready (rs := [11]) (by kernel_rfl) (by simp) ?_
       refine AllReady.cons (o := kBentM_40) rfl (fun K hK => ?_) AllReady.nil
       rw [if_pos (by rfl)]
       have c9 : w9.cell? ⟨gq, 3, none⟩ = some (.slice (some ⟨g1, 0, none⟩) m d2) := (B12.out.cell 3).trans rfl
       have f9 : w9.frozen? ⟨gq, 3, none⟩ = false := B12.out.frozen 3
       go_simp
       (try (refine hK _ _ ?_; clear hK K))
       try simp only [zp, zn, z1, z2, z3]
       refine wpAny_done (by kernel_rfl) ?_ _
       try simp only [zp, zn, z1, z2, z3]
       go_wp2_with fail
       go_meet
       exact ⟨rfl, Lh (KDEL.out _ _ _ F13.out)⟩
      ·
       rw [if_pos (by rfl)]
       have hcl : Wd.cell? ⟨gq, 3, none⟩ = some (.slice (some ⟨g1, 0, none⟩) m d2) := (KD.out.q.cell 3).trans rfl
       go_simp
       (try (refine hK _ _ ?_; clear hK K))
       try simp only [zp, zn, z1, z2, z3]
       refine tk 8 kBentM_37 (.slice (some TAd) (m - (jx + 1)) (d2 - (jx + 1))) (fun W => by have hsl := HSL2.out W; go_simp) ?_
       try simp only [zp, zn, z1, z2, z3]
       refine wpAny_ready (rs := [1]) (by kernel_rfl) (by simp) ?_
       refine AllReady.cons (o := kBentM_34) rfl (fun K hK => ?_) AllReady.nil
       rw [if_pos (by rfl)]
       have hcl : Wd.cell? ⟨gq, 3, none⟩ = some (.slice (some ⟨g1, 0, none⟩) m d2) := (KD.out.q.cell 3).trans rfl
       go_simp
       (try (refine hK _ _ ?_; clear hK K))
       try simp only [zp, zn, z1, z2, z3]
       refine tk 3 kBentM_36 (.slice (some ⟨g1, 0, none⟩) jx d2) (fun W => by have hsl := HSL1.out W; go_simp) ?_
       try simp only [zp, zn, z1, z2, z3]
       refine wpAny_ready (rs := [9]) (by kernel_rfl) (by simp) ?_
       refine AllReady.cons (o := kBentM_38) rfl (fun K hK => ?_) AllReady.nil
       rw [if_pos (by rfl)]
       refine wp_append_digs (.tmp 161) (.tmp 166) rfl (w.heap.size + 2) _ jx _ rfl (own_cutS KD.out.s H16.out (Nat.le_of_lt hkl) HLEN2.out) (some TAd) (m - (jx + 1)) (d2 - (jx + 1)) _ (S.drop (jx + 1)) rfl (fun e => by cases e) HTL.out HD16.out HTR.out (by omega) (by have := KD.out.b.size; have := KD.out.z.lt; omega) ?_
       intro v17 w18 ho hg
       have B21 := Lh (blk_other KD.out.q (own_cutS KD.out.s H16.out (Nat.le_of_lt hkl) HLEN2.out) hg (by decide))
       rw [← B8_append, ← List.flatten_append] at ho
       have hho := ho
       obtain ⟨P19, p20, rfl, _, _, _⟩ := own_form hho
       clear hho
       have F22 := Lh (KD.out.growS ((own_cutS KD.out.s H16.out (Nat.le_of_lt hkl) HLEN2.out)) ho hg)
       clear ho hg
       (try (refine hK _ _ ?_; clear hK K))
       try simp only [zp, zn, z1, z2, z3]
       refine tk 10 kBentM_39 (.pointer (some ⟨gq, 3, none⟩)) (fun W => ?y23) ?_
       case y23 => go_simp
       try simp only [zp, zn, z1, z2, z3]
       refine wpAny_ready (rs := [11]) (by kernel_rfl) (by simp) ?_
       refine AllReady.cons (o := kBentM_40) rfl (fun K hK => ?_) AllReady.nil
       rw [if_pos (by rfl)]
       have c9 : w18.cell? ⟨gq, 3, none⟩ = some (.slice (some ⟨g1, 0, none⟩) m d2) := (B21.out.cell 3).trans rfl
       have f9 : w18.frozen? ⟨gq, 3, none⟩ = false := B21.out.frozen 3
       go_simp
       (try (refine hK _ _ ?_; clear hK K))
       try simp only [zp, zn, z1, z2, z3]
       refine wpAny_done (by kernel_rfl) ?_ _
       try simp only [zp, zn, z1, z2, z3]
       go_wp2_with fail
       go_meet
       exact ⟨rfl, Lh (KDEL.out _ _ _ F22.out)⟩
   ·
    as_aux_lemma =>
     subst hq
     clear HQ HAQ
     obtain ⟨D1, hd1⟩ : ∃ D : List UInt8, D = [1, 0, 0, 0, 0, 0, 0, 0, 0, 0, 0, 0, 0, 0, 0, 0] := ⟨_, rfl⟩
     have HD1 := Lh hd1
     have hagg : #[.int .u8 1, .int .u8 0, .int .u8 0, .int .u8 0, .int .u8 0, .int .u8 0, .int .u8 0, .int .u8 0, .int .u8 0, .int .u8 0, .int .u8 0, .int .u8 0, .int .u8 0, .int .u8 0, .int .u8 0, .int .u8 0] = (B8 D1).toArray := by rw [hd1]; rfl
     have HL1 := Lh (show D1.length = 16 by rw [hd1]; rfl)
     have KA := Lh (K2.out.below ((Below.refl w2.heap.size w2).alloc (Nat.le_refl _) (.cells (B8 D1).toArray 29)))
     have RN := Lh (show Rd (w2.alloc (.cells (B8 D1).toArray 29)) (w2.alloc (.cells (B8 D1).toArray 29)).heap.size (some ⟨w2.heap.size, 0, none⟩) (B8 [D1].flatten) from by rw [show [D1].flatten = D1 by simp]; exact rd_new w2 (B8 D1) 29)
     have KAPP := Lh (fun W A' c' (h : BQ w f sz L (S ++ [D1]) n (m + 1) gq P1 d1 A' c' W) => show BentC w n m M gq W from ⟨f, sz, L, _, n, _, P1, d1, A', c', h, HLEN1.out, by rw [List.length_append, ← HLEN2.out]; rfl, fun d hd => by
       rcases List.mem_append.1 hd with h1 | h1
       ·
        exact H16.out d h1
       ·
        rw [List.mem_singleton] at h1; rw [h1]; exact HL1.out, by omega, by omega, fun x hx => by have := HM.out x hx; omega, HF.out, HSZI.out⟩)
     have HB10 := Lh (show ∀ d ∈ [D1], d.length = 16 from fun d hd => by rw [List.mem_singleton] at hd; rw [hd]; exact HL1.out)
     clear hd1 q2
     go_wp2_with (first
      | (refine wpList_build16 rfl (.tmp 39) rfl D1 rfl HL1.out ?_)
      | (refine wpList_append_digs rfl (.tmp 38) (.tmp 40) rfl (w.heap.size + 2) _ m _ rfl KA.out.s (some ⟨w2.heap.size, 0, none⟩) 1 1 _ [D1] rfl (fun e => by cases e) rfl HB10.out RN.out (by omega) (by have := KA.out.b.size; have := KA.out.z.lt; omega) ?_; intro v w9 ho hg; have QB := Lh (blk_other KA.out.q KA.out.s hg (by decide)); rw [← B8_append, ← List.flatten_append] at ho; have hho := ho; obtain ⟨A9, c9, rfl, _, _, _⟩ := own_form hho; clear hho; have QF := Lh (KA.out.growS KA.out.s ho hg); have e9 : w9.cell? ⟨gq, 3, none⟩ = some (.slice P2 m d2) := (QB.out.cell 3).trans rfl; have f9 : w9.frozen? ⟨gq, 3, none⟩ = false := QB.out.frozen 3; clear ho hg))
     go_meet
     exact ⟨rfl, Lh (KAPP.out _ _ _ QF.out)⟩
   ·
    as_aux_lemma =>
     subst hq
     clear HQ HAQ
     go_upto_region 26 with fail
     rcases Nat.eq_zero_or_pos m with hn0 | hn0
     ·
      subst hn0
      go_wp2_with fail
      go_meet
      exact ⟨rfl, Lh (KSAME.out _ K2.out)⟩
     ·
      have hn0I : (0 : Int) < (m : Int) := by omega
      go_upto_region 27 with fail
      obtain ⟨g1, cc, hv, _, _⟩ := K2.out.s.form hn0
      cases hv
      have hkl := hjm hn0
      have hkI : (jx : Int) < (m : Int) := by omega
      have hjS : jx < S.length := by rw [← HLEN2.out]; exact hkl
      have h16j : (S[jx]'hjS).length = 16 := H16.out _ (List.getElem_mem _)
      obtain ⟨x8, hx8⟩ : ∃ x, (S[jx]'hjS)[a16]? = some x := ⟨(S[jx]'hjS)[a16]'(by omega), List.getElem?_eq_getElem _⟩
      have HX8 := Lh (show (B8 S.flatten)[jx * 16 + a16]? = some (.int .u8 (x8.toNat : Int)) by
       rw [B8, List.getElem?_map, flat_at S jx a16 H16.out hjS (by omega), hx8]; rfl)
      obtain ⟨y8, hy8⟩ := xor_u8 x8
      have HXOR := Lh hy8
      obtain ⟨S8, hS8⟩ : ∃ S', S' = S.set jx ((S[jx]'hjS).set a16 y8) := ⟨_, rfl⟩
      have HS8 := Lh (show (B8 S.flatten).set (jx * 16 + a16) (.int .u8 (y8.toNat : Int)) = B8 S8.flatten by
       rw [hS8, flat_set S jx a16 y8 H16.out hjS (by omega)]; simp [B8, List.map_set])
      have KSS := Lh (fun W (h : BQ w f sz L S8 n m gq P1 d1 (some ⟨g1, 0, none⟩) d2 W) => show BentC w n m M gq W from ⟨f, sz, L, S8, n, m, P1, d1, _, d2, h, HLEN1.out, by rw [hS8, List.length_set]; exact HLEN2.out, fun d hd => by
       rw [hS8] at hd
       rcases List.mem_or_eq_of_mem_set hd with h1 | h1
       ·
        exact H16.out d h1
       ·
        rw [h1, List.length_set]; exact h16j, by omega, by omega, fun x hx => by have := HM.out x hx; omega, HF.out, HSZI.out⟩)
      clear q2 q3 hx8 hy8 hS8 h16j hjS
      refine wp_region_held (S := fun W => W.cell? ⟨gq, 3, none⟩ = some (.slice (some ⟨g1, 0, none⟩) m d2) ∧ True) (by kernel_rfl) ?_
      change wpAnyH _ _ _ _ _ _ _ _ (World.drew w2)
      have KD := Lh (K2.out.below (Below.refl _ _).drew)
      have hs0 : (World.drew w2).cell? ⟨gq, 3, none⟩ = some (.slice (some ⟨g1, 0, none⟩) m d2) ∧ True := ⟨(KD.out.q.cell 3).trans rfl, trivial⟩
      generalize World.drew w2 = Wd at hs0 KD ⊢
      refine tkH 0 ({ dst := some 140, op := Op.fieldAddr 54 (Operand.tmp 7) 3, type := 0, pos := "ref.go:357", after := #[], guard := none }) (.pointer (some ⟨gq, 3, none⟩)) hs0 (fun W hW => ?y1) ?_
      case y1 => go_simp
      try simp only [zp, zn, z1, z2, z3]
      refine tkH 1 ({ dst := some 141, op := Op.load 48 (Operand.tmp 140), type := 48, pos := "ref.go:357", after := #[dD 0], guard := none }) (.slice (some ⟨g1, 0, none⟩) m d2) hs0 (fun W hW => by have hcl := hW.1; go_simp) ?_
      try simp only [zp, zn, z1, z2, z3]
      refine tkH 2 ({ dst := some 142, op := Op.move (Operand.tmp 9), type := 3, pos := "ref.go:357", after := #[], guard := none }) (.int .i64 (jx : Int)) hs0 (fun W hW => ?y3) ?_
      case y3 => go_simp
      try simp only [zp, zn, z1, z2, z3]
      refine tkH 3 ({ dst := some 143, op := Op.move (Operand.tmp 2), type := 3, pos := "ref.go:357", after := #[], guard := none }) (.int .i64 by_) hs0 (fun W hW => ?y4) ?_
      case y4 => go_simp
      try simp only [zp, zn, z1, z2, z3]
      refine tkH 4 ({ dst := some 144, op := Op.binOp BinOp.quo 3 (Operand.tmp 143) (Operand.const (Value.int IntKind.i64 8)) 3, type := 3, pos := "ref.go:357", after := #[dD 3], guard := none }) (.int .i64 b8) hs0 (fun W hW => by have hb8 := HB8.out; go_simp; first | done | exact hb8 | (rw [hb8])) ?_
      try simp only [zp, zn, z1, z2, z3]
      refine tkH 6 ({ dst := some 146, op := Op.indexAddr 48 (Operand.tmp 141) (Operand.tmp 142), type := 0, pos := "ref.go:357", after := #[dD 1, dD 2], guard := none }) (.pointer (some ⟨g1, jx * 16, none⟩)) hs0 (fun W hW => ?y6) ?_
      case y6 => go_simp
      try simp only [zp, zn, z1, z2, z3]
      refine tkH 10 ({ dst := some 150, op := Op.indexAddr 48 (Operand.tmp 141) (Operand.tmp 142), type := 0, pos := "ref.go:357", after := #[dD 1, dD 2], guard := none }) (.pointer (some ⟨g1, jx * 16, none⟩)) hs0 (fun W hW => ?y7) ?_
      case y7 => go_simp
      try simp only [zp, zn, z1, z2, z3]
      refine wpAnyH_ready (rs := [5]) (by kernel_rfl) (by simp) ?_
      refine AllReadyH.cons (o := { dst := some 145, op := Op.call { callee := Callee.value (Operand.func 17), args := #[Operand.tmp 144, Operand.const (Value.int IntKind.i64 16)], argTypes := #[3, 3] }, type := 3, pos := "ref.go:357", after := #[dD 4], guard := none }) rfl (fun K hK => ?_) AllReadyH.nil
      rw [if_pos (by rfl)]
      go_simp
      refine (HA16.out _).mono ?_; rintro e wx ⟨rfl, rfl⟩
      go_wp2_with fail
      refine hK.out _ _ hs0 (fun _ => ?_)
      clear hK K
      try simp only [zp, zn, z1, z2, z3]
      refine tkH 7 ({ dst := some 147, op := Op.indexAddr 29 (Operand.tmp 146) (Operand.tmp 145), type := 0, pos := "ref.go:357", after := #[dD 6, dD 5], guard := none }) (.pointer (some ⟨g1, jx * 16 + a16, none⟩)) hs0 (fun W hW => ?y8) ?_
      case y8 => go_simp
      try simp only [zp, zn, z1, z2, z3]
      refine wpAnyH_ready (rs := [8]) (by kernel_rfl) (by simp) ?_
      refine AllReadyH.cons (o := { dst := some 148, op := Op.load 5 (Operand.tmp 147), type := 5, pos := "ref.go:357", after := #[dD 7], guard := none }) rfl (fun K hK => ?_) AllReadyH.nil
      rw [if_pos (by rfl)]
      have c8 : Wd.cell? ⟨g1, jx * 16 + a16, none⟩ = some (.int .u8 (x8.toNat : Int)) := own_cellAt KD.out.s HX8.out
      go_simp
      refine hK.out _ _ hs0 (fun _ => ?_)
      clear hK K
      try simp only [zp, zn, z1, z2, z3]
      refine tkH 9 ({ dst := some 149, op := Op.binOp BinOp.xor 5 (Operand.tmp 148) (Operand.const (Value.int IntKind.u8 1)) 5, type := 5, pos := "ref.go:357", after := #[dD 8], guard := none }) (.int .u8 (y8.toNat : Int)) hs0 (fun W hW => by have hx := HXOR.out; go_simp; first | done | exact hx | (rw [hx])) ?_
      try simp only [zp, zn, z1, z2, z3]
      refine tkH 11 ({ dst := some 151, op := Op.indexAddr 29 (Operand.tmp 150) (Operand.tmp 145), type := 0, pos := "ref.go:357", after := #[dD 10, dD 5, dP 0, dP 1, dP 2, dP 3, dP 4, dP 5, dP 6, dP 7, dP 8, dP 9], guard := none }) (.pointer (some ⟨g1, jx * 16 + a16, none⟩)) hs0 (fun W hW => ?y10) ?_
      case y10 => go_simp
      try simp only [zp, zn, z1, z2, z3]
      refine wpAnyH_ready (rs := [12]) (by kernel_rfl) (by simp) ?_
      refine AllReadyH.cons (o := { dst := none, op := Op.store 5 (Operand.tmp 151) (Operand.tmp 149), type := 0, pos := "ref.go:357", after := #[dD 11, dD 9, dC 5, dP 0, dP 1, dP 2, dP 3, dP 4, dP 5, dP 6, dP 7, dP 8, dP 9], guard := none }) rfl (fun K hK => ?_) AllReadyH.nil
      rw [if_pos (by rfl)]
      have c9 : Wd.cell? ⟨g1, jx * 16 + a16, none⟩ = some (.int .u8 (x8.toNat : Int)) := own_cellAt KD.out.s HX8.out
      have f9 : Wd.frozen? ⟨g1, jx * 16 + a16, none⟩ = false := own_frozen KD.out.s
      have hs9 : (Wd.setCell ⟨g1, jx * 16 + a16, none⟩ (.int .u8 (y8.toNat : Int))).cell? ⟨gq, 3, none⟩ = some (.slice (some ⟨g1, 0, none⟩) m d2) := ((KD.out.q.far (p := ⟨g1, jx * 16 + a16, none⟩) (own_far KD.out.s KD.out.q) _).cell 3).trans rfl
      have hs9 := And.intro hs9 trivial
      have QF := Lh (KD.out.setS (i := jx * 16 + a16) (u := .int .u8 (y8.toNat : Int)) (S' := S8) HS8.out)
      go_simp
      refine hK.out _ _ hs9 (fun _ => ?_)
      clear hK K
      try simp only [zp, zn, z1, z2, z3]
      refine wpAnyH_done (by kernel_rfl) ?_ _
      try simp only [zp, zn, z1, z2, z3]
      go_wp2_with fail
      go_meet
      exact ⟨rfl, Lh (KSS.out _ QF.out)⟩
  case rest =>
   obtain ⟨rfl, KC⟩ := hcut
   obtain ⟨f', sz', L', S', n', m', B1, e1, B2, e2, hk, h1, h2, h3, h4, h5, h6, h7, h8⟩ := KC.out
   have K3 := Lh hk
   have HE := Lh (And.intro h1 (And.intro h2 (And.intro h3 (And.intro h4 (And.intro h5 (And.intro h6 (And.intro h7 h8)))))))
   obtain ⟨w3, hw3⟩ : ∃ W, W = wc := ⟨_, rfl⟩
   rw [← hw3] at K3 ⊢
   clear hw3 KC hk h1 h2 h3 h4 h5 h6 h7 h8 q2 q3
   have Z3h := Lh (show w3.heap[w.heap.size + 1]? = some (.cells ZP.toArray 54 (0, 0)) from K3.out.z)
   go_wp2_with (first
    | (refine wpList_load_at rfl 54 (.tmp 7) rfl ⟨gq, 0, none⟩ rfl (PR f' sz' (.slice B1 n' e1) (.slice B2 m' e2)) _ K3.out.q.at Tryd.underlying54 rfl (size54L _ _ _ _) ?_)
    | (with_reducible refine wpList_store_row rfl 54 (.tmp 6) (.tmp 169) rfl (w.heap.size + 1) (PR f' sz' (.slice B1 n' e1) (.slice B2 m' e2)).toArray rfl rfl 54 _ Z3h.out (size54A _ _ _ _) (ZP_PR _ _ _ _) (PR_one _ _ _ _ _ _ _ _) ?_))
   refine bodyPost_ret (v := .agg (PR f' sz' (.slice B1 n' e1) (.slice B2 m' e2)).toArray) ?_ rfl ⟨_, _, L', S', _, _, _, _, _, _, rfl, own_setRow K3.out.l (fun e => by have := (K3.out.l.lt _ e).1; omega), own_setRow K3.out.s (fun e => by have := (K3.out.s.lt _ e).1; omega), belowRow K3.out.b (by omega) _, HE.out⟩
   have hr := run_loadVar_row (P := Tryd.prog) _ (w.heap.size + 1) 54 54 (PR f' sz' (.slice B1 n' e1) (.slice B2 m' e2)).toArray (0, 0) _ (heap_setRow w3 (w.heap.size + 1) _ _ 54 Z3h.out) Tryd.underlying54 rfl (size54A _ _ _ _)
   simp [results, asAddr, hr, Act.put]
end Go.Proofs.YtofccgkgjcnfbaaDoor
