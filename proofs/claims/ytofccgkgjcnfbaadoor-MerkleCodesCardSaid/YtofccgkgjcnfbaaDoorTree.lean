/-
  Plain mathematics of merkle: byte strings in order, rows of leaves, trees, proofs; Check accepts what Prove returns.
  No condition.
-/
set_option linter.unusedVariables false
set_option linter.unusedSimpArgs false
namespace Go.Proofs.YtofccgkgjcnfbaaDoor.Wr
def sl (a b : ByteArray) : Bool := decide (a.data.toList < b.data.toList)
theorem sl_irrefl (a : ByteArray) : sl a a = false := by
 unfold sl; exact decide_eq_false (List.lt_irrefl _)
theorem sl_trans {a b c : ByteArray} (h : sl a b = true) (k : sl b c = true) : sl a c = true := by
 unfold sl at *
 exact decide_eq_true (List.lt_trans (of_decide_eq_true h) (of_decide_eq_true k))
theorem sl_asymm {a b : ByteArray} (h : sl a b = true) : sl b a = false := by
 cases hb : sl b a with
 | false => rfl
 | true => exact absurd (sl_trans h hb) (by rw [sl_irrefl]; simp)
theorem sl_eq {a b : ByteArray} (h : sl a b = false) (k : sl b a = false) : a = b := by
 unfold sl at *
 have h1 := of_decide_eq_false h
 have h2 := of_decide_eq_false k
 have : a.data.toList = b.data.toList := by
  exact List.le_antisymm (List.not_lt.1 h2) (List.not_lt.1 h1)
 cases a; cases b; simp_all
abbrev Lf := ByteArray × ByteArray
def ord (L : List Lf) : Prop := L.Pairwise fun x y => sl x.1 y.1 = true
def cb (L : List Lf) (k : ByteArray) : Nat := L.countP fun x => sl x.1 k
theorem cb_le (L : List Lf) (k : ByteArray) : cb L k ≤ L.length := List.countP_le_length
theorem cb_iff : ∀ (L : List Lf) (k : ByteArray), ord L → ∀ i (h : i < L.length), (sl L[i].1 k = true ↔ i < cb L k)
 | [], _, _, i, h => absurd h (by simp)
 | x :: L, k, ho, i, h => by
  obtain ⟨h1, h2⟩ := List.pairwise_cons.1 ho
  unfold cb
  rw [List.countP_cons]
  have ih := cb_iff L k h2
  cases hx : sl x.1 k with
  | true =>
   cases i with
   | zero => simp [hx]
   | succ i =>
    have := ih i (by simpa using h)
    simp only [List.getElem_cons_succ]
    rw [this]; unfold cb; simp
  | false =>
   have hz : L.countP (fun x => sl x.1 k) = 0 := by
    rw [List.countP_eq_zero]
    intro y hy hyk
    have := sl_trans (h1 y hy) hyk
    rw [hx] at this; cases this
   rw [hz]
   cases i with
   | zero => simp [hx]
   | succ i =>
    have := ih i (by simpa using h)
    simp only [List.getElem_cons_succ]
    rw [this]; unfold cb; rw [hz]; simp
theorem cb_mono {L : List Lf} {a b : ByteArray} (h : sl b a = false) : cb L a ≤ cb L b := by
 refine List.countP_mono_left fun x _ hx => ?_
 cases hab : sl a b with
 | true => exact sl_trans hx hab
 | false => rw [← sl_eq hab h]; exact hx
def half (n : Nat) : Nat := 2 ^ Nat.log2 (n - 1)
theorem half_pos (n : Nat) : 0 < half n := Nat.pow_pos (by decide)
theorem half_lt {n : Nat} (h : 1 < n) : half n < n := by
 unfold half
 have := Nat.log2_self_le (n := n - 1) (by omega)
 omega
section
variable {σ : Type} (node : List UInt8 → List UInt8 → List UInt8)
def rowG (G : σ → Nat → Nat → (List UInt8 × Bool) × σ) (s : σ) (a b : Nat) : List UInt8 × σ :=
 if (G s a b).1.2 = true then ((G s a b).1.1, (G s a b).2)
 else if h : b - a ≤ 1 then ([], (G s a b).2)
 else
  let x := rowG G (G s a b).2 a (a + half (b - a))
  let y := rowG G x.2 (a + half (b - a)) b
  (node x.1 y.1, y.2)
termination_by b - a
decreasing_by
 ·
  have := half_lt (n := b - a) (by omega); omega
 ·
  have := half_lt (n := b - a) (by omega); have := half_pos (b - a); omega
theorem rowG_told {G : σ → Nat → Nat → (List UInt8 × Bool) × σ} {s s' : σ} {a b : Nat} {d : List UInt8} (h : G s a b = ((d, true), s')) : rowG node G s a b = (d, s') := by
 rw [rowG, h]; rfl
theorem rowG_split {G : σ → Nat → Nat → (List UInt8 × Bool) × σ} {s s' : σ} {a b : Nat} {d : List UInt8} (h : G s a b = ((d, false), s')) (hb : 1 < b - a) :
  rowG node G s a b = (node (rowG node G s' a (a + half (b - a))).1 (rowG node G (rowG node G s' a (a + half (b - a))).2 (a + half (b - a)) b).1, (rowG node G (rowG node G s' a (a + half (b - a))).2 (a + half (b - a)) b).2) := by
 conv => lhs; rw [rowG, h]
 rw [if_neg (by simp), dif_neg (by omega)]
variable (leaf : Nat → List UInt8)
def tree (a b : Nat) : List UInt8 :=
 if h : b - a ≤ 1 then leaf a else node (tree a (a + half (b - a))) (tree (a + half (b - a)) b)
termination_by b - a
decreasing_by
 ·
  have := half_lt (n := b - a) (by omega); omega
 ·
  have := half_lt (n := b - a) (by omega); have := half_pos (b - a); omega
theorem tree_one {a b : Nat} (h : b - a ≤ 1) : tree node leaf a b = leaf a := by rw [tree, dif_pos h]
theorem tree_split {a b : Nat} (h : 1 < b - a) : tree node leaf a b = node (tree node leaf a (a + half (b - a))) (tree node leaf (a + half (b - a)) b) := by
 conv => lhs; rw [tree, dif_neg (by omega)]
def gSingle (_ : Unit) (a b : Nat) : (List UInt8 × Bool) × Unit := (if 1 < b - a then (List.replicate 16 0, false) else (leaf a, true), ())
theorem row_single (n : Nat) : ∀ (a b : Nat), b - a ≤ n → rowG node (gSingle leaf) () a b = (tree node leaf a b, ()) := by
 induction n with
 | zero =>
  intro a b h
  rw [rowG_told node (d := leaf a) (s' := ()) (by unfold gSingle; rw [if_neg (by omega)]), tree_one node leaf (by omega)]
 | succ n ih =>
  intro a b h
  by_cases h1 : 1 < b - a
  ·
   have := half_lt h1
   have := half_pos (b - a)
   rw [rowG_split node (d := List.replicate 16 0) (s' := ()) (by unfold gSingle; rw [if_pos h1]) h1, ih a (a + half (b - a)) (by omega), ih (a + half (b - a)) b (by omega), tree_split node leaf h1]
  ·
   rw [rowG_told node (d := leaf a) (s' := ()) (by unfold gSingle; rw [if_neg (by omega)]), tree_one node leaf (by omega)]
def gProve (first last : Nat) (s : List (List UInt8)) (a b : Nat) : (List UInt8 × Bool) × List (List UInt8) :=
 if b ≤ first ∨ last ≤ a then ((tree node leaf a b, true), s ++ [tree node leaf a b]) else (if 1 < b - a then (List.replicate 16 0, false) else (leaf a, true), s)
def sides (first last : Nat) (a b : Nat) : List (List UInt8) :=
 if b ≤ first ∨ last ≤ a then [tree node leaf a b]
 else if h : b - a ≤ 1 then []
 else sides first last a (a + half (b - a)) ++ sides first last (a + half (b - a)) b
termination_by b - a
decreasing_by
 ·
  have := half_lt (n := b - a) (by omega); omega
 ·
  have := half_lt (n := b - a) (by omega); have := half_pos (b - a); omega
theorem sides_told {first last a b : Nat} (h : b ≤ first ∨ last ≤ a) : sides node leaf first last a b = [tree node leaf a b] := by rw [sides, if_pos h]
theorem sides_one {first last a b : Nat} (h : ¬ (b ≤ first ∨ last ≤ a)) (h1 : b - a ≤ 1) : sides node leaf first last a b = [] := by rw [sides, if_neg h, dif_pos h1]
theorem sides_split {first last a b : Nat} (h : ¬ (b ≤ first ∨ last ≤ a)) (h1 : 1 < b - a) : sides node leaf first last a b = sides node leaf first last a (a + half (b - a)) ++ sides node leaf first last (a + half (b - a)) b := by
 conv => lhs; rw [sides, if_neg h, dif_neg (by omega)]
theorem row_prove (first last : Nat) (n : Nat) : ∀ (a b : Nat) (s : List (List UInt8)), b - a ≤ n → rowG node (gProve node leaf first last) s a b = (tree node leaf a b, s ++ sides node leaf first last a b) := by
 induction n with
 | zero =>
  intro a b s h
  by_cases hc : b ≤ first ∨ last ≤ a
  ·
   rw [rowG_told node (d := tree node leaf a b) (s' := s ++ [tree node leaf a b]) (by unfold gProve; rw [if_pos hc]), sides_told _ _ hc]
  ·
   rw [rowG_told node (d := leaf a) (s' := s) (by unfold gProve; rw [if_neg hc, if_neg (by omega)]), sides_one _ _ hc (by omega), tree_one node leaf (by omega), List.append_nil]
 | succ n ih =>
  intro a b s h
  by_cases hc : b ≤ first ∨ last ≤ a
  ·
   rw [rowG_told node (d := tree node leaf a b) (s' := s ++ [tree node leaf a b]) (by unfold gProve; rw [if_pos hc]), sides_told _ _ hc]
  ·
   by_cases h1 : 1 < b - a
   ·
    have := half_lt h1
    have := half_pos (b - a)
    rw [rowG_split node (d := List.replicate 16 0) (s' := s) (by unfold gProve; rw [if_neg hc, if_pos h1]) h1, ih a (a + half (b - a)) _ (by omega), ih (a + half (b - a)) b _ (by omega), tree_split node leaf h1, sides_split _ _ hc h1, List.append_assoc]
   ·
    rw [rowG_told node (d := leaf a) (s' := s) (by unfold gProve; rw [if_neg hc, if_neg (by omega)]), sides_one _ _ hc (by omega), tree_one node leaf (by omega), List.append_nil]
theorem sides_le (first last : Nat) (n : Nat) : ∀ (a b : Nat), b - a ≤ n → a < b → (sides node leaf first last a b).length ≤ b - a := by
 induction n with
 | zero => intro a b h h2; omega
 | succ n ih =>
  intro a b h h2
  by_cases hc : b ≤ first ∨ last ≤ a
  ·
   rw [sides_told _ _ hc]; simp; omega
  ·
   by_cases h1 : 1 < b - a
   ·
    have := half_lt h1
    have := half_pos (b - a)
    have h3 := ih a (a + half (b - a)) (by omega) (by omega)
    have h4 := ih (a + half (b - a)) b (by omega) (by omega)
    rw [sides_split _ _ hc h1, List.length_append]; omega
   ·
    rw [sides_one _ _ hc (by omega)]; simp
def gUnder (first last : Nat) (leafP : Nat → List UInt8) (S : List (List UInt8)) (u : Nat) (a b : Nat) : (List UInt8 × Bool) × Nat :=
 if first < b ∧ a < last then (if 1 < b - a then (List.replicate 16 0, false) else (leafP a, true), u)
 else ((if u + 1 > S.length then List.replicate 16 0 else S.getD u [], true), u + 1)
theorem row_under (first last : Nat) (leafP : Nat → List UInt8) (hl : ∀ i, first ≤ i → i < last → leafP i = leaf i) (S : List (List UInt8)) (n : Nat) : ∀ (a b : Nat) (u : Nat), b - a ≤ n → a < b →
  (∀ j, j < (sides node leaf first last a b).length → S[u + j]? = (sides node leaf first last a b)[j]?) →
  rowG node (gUnder first last leafP S) u a b = (tree node leaf a b, u + (sides node leaf first last a b).length) := by
 induction n with
 | zero => intro a b u h h2; omega
 | succ n ih =>
  intro a b u h h2 hS
  by_cases hc : b ≤ first ∨ last ≤ a
  ·
   rw [sides_told _ _ hc] at hS ⊢
   have h3 := hS 0 (by simp)
   simp at h3
   obtain ⟨h4, h5⟩ := List.getElem?_eq_some_iff.1 h3
   rw [rowG_told node (d := tree node leaf a b) (s' := u + 1) (by unfold gUnder; rw [if_neg (by omega), if_neg (by omega), List.getD_eq_getElem?_getD, h3]; rfl)]
   simp
  ·
   by_cases h1 : 1 < b - a
   ·
    have := half_lt h1
    have := half_pos (b - a)
    rw [sides_split _ _ hc h1] at hS ⊢
    rw [rowG_split node (d := List.replicate 16 0) (s' := u) (by unfold gUnder; rw [if_pos (by omega), if_pos h1]) h1,
     ih a (a + half (b - a)) u (by omega) (by omega) (fun j hj => by rw [hS j (by simp; omega), List.getElem?_append_left hj])]
    simp only
    rw [ih (a + half (b - a)) b _ (by omega) (by omega) (fun j hj => by rw [Nat.add_assoc, hS _ (by simp; omega), List.getElem?_append_right (by omega), Nat.add_sub_cancel_left]), tree_split node leaf h1, List.length_append, Nat.add_assoc]
   ·
    rw [rowG_told node (d := leaf a) (s' := u) (by unfold gUnder; rw [if_pos (by omega), if_neg (by omega), hl a (by omega) (by omega)]), sides_one _ _ hc (by omega), tree_one node leaf (by omega)]
    rfl
end
def ordB : List Lf → Bool
 | [] => true
 | [_] => true
 | x :: y :: r => sl x.1 y.1 && ordB (y :: r)
theorem ordB_iff : ∀ L : List Lf, ordB L = true ↔ ord L
 | [] => by simp [ordB, ord]
 | [x] => by simp [ordB, ord]
 | x :: y :: r => by
  have ih := ordB_iff (y :: r)
  unfold ordB
  rw [Bool.and_eq_true, ih]
  unfold ord
  rw [List.pairwise_cons (a := x)]
  constructor
  ·
   rintro ⟨h1, h2⟩
   refine ⟨fun z hz => ?_, h2⟩
   rcases List.mem_cons.1 hz with rfl | hz
   ·
    exact h1
   ·
    exact sl_trans h1 ((List.pairwise_cons.1 h2).1 z hz)
  ·
   rintro ⟨h1, h2⟩
   exact ⟨h1 y (by simp), h2⟩
def longB (x : Lf) : Bool := decide (65536 < x.1.size) || decide (65536 < x.2.size)
def validE (L : List Lf) : Int := if 4096 < L.length then 4 else if L.any longB = true then 4 else if ordB L = true then 0 else 1
theorem valid_ok {L : List Lf} (h : validE L = 0) : L.length ≤ 4096 ∧ L.any longB = false ∧ ord L := by
 unfold validE at h
 split at h
 ·
  cases h
 ·
  split at h
  ·
   cases h
  ·
   split at h
   ·
    rename_i h1 h2 h3
    exact ⟨by omega, by simpa using h2, (ordB_iff L).1 h3⟩
   ·
    cases h
theorem valid_of {L : List Lf} (h1 : L.length ≤ 4096) (h2 : L.any longB = false) (h3 : ord L) : validE L = 0 := by
 unfold validE
 rw [if_neg (by omega), if_neg (by simp [h2]), if_pos ((ordB_iff L).2 h3)]
def cut (L : List Lf) (first last : Nat) : List Lf := (L.take last).drop first
theorem cut_len (L : List Lf) (first last : Nat) (h2 : last ≤ L.length) : (cut L first last).length = last - first := by
 unfold cut; rw [List.length_drop, List.length_take]; omega
theorem cut_get (L : List Lf) (first last i : Nat) (h : i < last - first) : (cut L first last)[i]? = L[first + i]? := by
 unfold cut; rw [List.getElem?_drop, List.getElem?_take, if_pos (by omega)]
theorem cut_sub (L : List Lf) (first last : Nat) : (cut L first last).Sublist L := (List.drop_sublist _ _).trans (List.take_sublist _ _)
theorem cut_ord {L : List Lf} (h : ord L) (first last : Nat) : ord (cut L first last) := List.Pairwise.sublist (cut_sub L first last) h
theorem cut_valid {L : List Lf} (h : validE L = 0) (first last : Nat) : validE (cut L first last) = 0 := by
 obtain ⟨h1, h2, h3⟩ := valid_ok h
 refine valid_of (Nat.le_trans (cut_sub L first last).length_le h1) ?_ (cut_ord h3 _ _)
 rw [List.any_eq_false] at h2 ⊢
 exact fun x hx => h2 x ((cut_sub L first last).subset hx)
theorem cut_cb {L : List Lf} (ho : ord L) (k : ByteArray) (first last : Nat) (h1 : first ≤ cb L k) (h2 : cb L k ≤ last) (h3 : last ≤ L.length) : cb (cut L first last) k = cb L k - first := by
 have e : L = L.take first ++ (cut L first last ++ L.drop last) := by
  unfold cut
  have : (L.take last).drop first ++ L.drop last = L.drop first := by
   conv => rhs; rw [← List.take_append_drop last L]
   rw [List.drop_append_of_le_length (by rw [List.length_take]; omega)]
  rw [this, List.take_append_drop]
 have c1 : (L.take first).countP (fun x => sl x.1 k) = first := by
  have : (L.take first).countP (fun x => sl x.1 k) = (L.take first).length := by
   rw [List.countP_eq_length]
   intro x hx
   obtain ⟨i, hi, rfl⟩ := List.getElem_of_mem hx
   rw [List.length_take] at hi
   rw [List.getElem_take]
   exact (cb_iff L k ho i (by omega)).2 (by omega)
  rw [this, List.length_take]; omega
 have c2 : (L.drop last).countP (fun x => sl x.1 k) = 0 := by
  rw [List.countP_eq_zero]
  intro x hx hk
  obtain ⟨i, hi, rfl⟩ := List.getElem_of_mem hx
  rw [List.length_drop] at hi
  rw [List.getElem_drop] at hk
  have := (cb_iff L k ho (last + i) (by omega)).1 hk
  omega
 have := congrArg (fun l => l.countP (fun x => sl x.1 k)) e
 simp only [List.countP_append, c1, c2] at this
 unfold cb
 omega
structure Pf where
 first : Int
 size : Int
 leaves : List Lf
 sides : List (List UInt8)
section
variable (node : List UInt8 → List UInt8 → List UInt8) (lf : Lf → List UInt8) (top : Int → Option (List UInt8) → List UInt8)
def leafAt (L : List Lf) (i : Nat) : List UInt8 := lf (L.getD i (ByteArray.empty, ByteArray.empty))
def rootRun {σ : Type} (G : σ → Nat → Nat → (List UInt8 × Bool) × σ) (s : σ) (n : Nat) : List UInt8 × σ :=
 if n = 0 then (top n none, s) else (top n (some (rowG node G s 0 n).1), (rowG node G s 0 n).2)
def rootD (L : List Lf) : List UInt8 := (rootRun node top (gSingle (leafAt lf L)) () L.length).1
def shown (L : List Lf) (first last : Nat) : Pf := ⟨(first : Int), (L.length : Int), cut L first last, (rootRun node top (gProve node (leafAt lf L) first last) [] L.length).2⟩
def formP (p : Pf) : Bool := decide (0 ≤ p.size ∧ p.size ≤ 4096 ∧ 0 ≤ p.first ∧ p.first ≤ p.size - p.leaves.length) && !(decide (0 < p.size) && decide (p.leaves.length = 0)) && decide (validE p.leaves = 0)
def runP (p : Pf) : List UInt8 × Nat := rootRun node top (gUnder p.first.toNat (p.first.toNat + p.leaves.length) (fun i => leafAt lf p.leaves (i - p.first.toNat)) p.sides) 0 p.size.toNat
def underB (root : List UInt8) (p : Pf) : Bool := formP p && (decide ((runP node lf top p).2 = p.sides.length) && decide ((runP node lf top p).1 = root))
def bounded (p : Pf) (b e : Nat) : Bool := (decide (0 < b) || decide (p.first = 0)) && (decide (e < p.leaves.length) || decide (p.first + p.leaves.length = p.size))
def hitB (L : List Lf) (k : ByteArray) : Bool := decide (cb L k < L.length) && decide ((L.getD (cb L k) (ByteArray.empty, ByteArray.empty)).1 = k)
def checkR (root : List UInt8) (k : ByteArray) (p : Pf) : ByteArray × Bool × Int :=
 if underB node lf top root p = true then
  if hitB p.leaves k = true then ((p.leaves.getD (cb p.leaves k) (ByteArray.empty, ByteArray.empty)).2, true, 0)
  else if bounded p (cb p.leaves k) (cb p.leaves k) = true then (ByteArray.empty, false, 0) else (ByteArray.empty, false, 17)
 else (ByteArray.empty, false, 17)
def checkRangeR (root : List UInt8) (k m : ByteArray) (p : Pf) : List Lf × Int :=
 if sl m k = true then ([], 5)
 else if underB node lf top root p = true then
  if bounded p (cb p.leaves k) (cb p.leaves m) = true then (cut p.leaves (cb p.leaves k) (cb p.leaves m), 0) else ([], 17)
 else ([], 17)
def noPf : Pf := ⟨0, 0, [], []⟩
def proveR (L : List Lf) (k : ByteArray) : Pf × Int :=
 if validE L = 0 then (if hitB L k = true then shown node lf top L (cb L k) (cb L k + 1) else shown node lf top L (cb L k - 1) (min (cb L k + 1) L.length), 0) else (noPf, validE L)
def rangeR (L : List Lf) (k m : ByteArray) : Pf × Int :=
 if validE L = 0 then (if sl m k = true then (noPf, 5) else (shown node lf top L (cb L k - 1) (min (cb L m + 1) L.length), 0)) else (noPf, validE L)
theorem shown_sides (L : List Lf) (first last : Nat) : (shown node lf top L first last).sides = if L.length = 0 then [] else sides node (leafAt lf L) first last 0 L.length := by
 unfold shown rootRun
 split
 ·
  rfl
 ·
  rw [row_prove node (leafAt lf L) first last L.length 0 L.length [] (by omega)]; rfl
theorem rootD_eq (L : List Lf) : rootD node lf top L = if L.length = 0 then top L.length none else top L.length (some (tree node (leafAt lf L) 0 L.length)) := by
 unfold rootD rootRun
 split
 ·
  rfl
 ·
  rw [row_single node (leafAt lf L) L.length 0 L.length (by omega)]
theorem under_shown (L : List Lf) (first last : Nat) (hv : validE L = 0) (h1 : first ≤ last) (h2 : last ≤ L.length) (h3 : 0 < L.length → first < last) : underB node lf top (rootD node lf top L) (shown node lf top L first last) = true := by
 obtain ⟨v1, v2, v3⟩ := valid_ok hv
 have hcl := cut_len L first last h2
 have hf : formP (shown node lf top L first last) = true := by
  unfold formP
  simp only [Bool.and_eq_true, decide_eq_true_eq, Bool.not_eq_true', Bool.and_eq_false_iff, decide_eq_false_iff_not]
  refine ⟨⟨⟨by show (0 : Int) ≤ L.length; omega, by show ((L.length : Nat) : Int) ≤ 4096; omega, by show (0 : Int) ≤ first; omega, by show (first : Int) ≤ (L.length : Int) - ((cut L first last).length : Int); rw [hcl]; omega⟩, ?_⟩, cut_valid hv _ _⟩
  by_cases h0 : L.length = 0
  ·
   left; show ¬ (0 : Int) < (L.length : Int); omega
  ·
   right; show ¬ (cut L first last).length = 0; rw [hcl]; have := h3 (by omega); omega
 unfold underB
 rw [hf, Bool.true_and]
 have hr : runP node lf top (shown node lf top L first last) = (rootD node lf top L, (shown node lf top L first last).sides.length) := by
  rw [shown_sides, rootD_eq]
  unfold runP
  rw [shown_sides]
  show rootRun node top (gUnder (first : Int).toNat ((first : Int).toNat + (cut L first last).length) (fun i => leafAt lf (cut L first last) (i - (first : Int).toNat)) _) 0 (L.length : Int).toNat = _
  rw [Int.toNat_natCast, Int.toNat_natCast, hcl, show first + (last - first) = last by omega]
  unfold rootRun
  by_cases h0 : L.length = 0
  ·
   rw [if_pos h0, if_pos h0, if_pos h0]; rfl
  ·
   rw [if_neg h0, if_neg h0, if_neg h0]
   rw [row_under node (leafAt lf L) first last _ (fun i h5 h6 => by
    unfold leafAt
    rw [List.getD_eq_getElem?_getD, List.getD_eq_getElem?_getD, cut_get _ _ _ _ (by omega), show first + (i - first) = i by omega]) _ L.length 0 L.length 0 (by omega) (by omega) (fun j hj => by rw [Nat.zero_add])]
   rw [Nat.zero_add]
 rw [hr]
 simp
theorem getD_cut (L : List Lf) (first last i : Nat) (d : Lf) (h : i < last - first) : (cut L first last).getD i d = L.getD (first + i) d := by
 rw [List.getD_eq_getElem?_getD, List.getD_eq_getElem?_getD, cut_get _ _ _ _ h]
theorem check_prove (L : List Lf) (k : ByteArray) (hv : validE L = 0) : checkR node lf top (rootD node lf top L) k (proveR node lf top L k).1 = if hitB L k = true then ((L.getD (cb L k) (ByteArray.empty, ByteArray.empty)).2, true, 0) else (ByteArray.empty, false, 0) := by
 obtain ⟨v1, v2, v3⟩ := valid_ok hv
 have hcb := cb_le L k
 unfold proveR
 rw [if_pos hv]
 by_cases hh : hitB L k = true
 ·
  rw [if_pos hh, if_pos hh]
  have hlt : cb L k < L.length ∧ (L.getD (cb L k) (ByteArray.empty, ByteArray.empty)).1 = k := by
   unfold hitB at hh; simpa using hh
  have hc : cb (cut L (cb L k) (cb L k + 1)) k = 0 := by rw [cut_cb v3 k _ _ (by omega) (by omega) (by omega)]; omega
  unfold checkR
  rw [if_pos (under_shown node lf top L _ _ hv (by omega) (by omega) (by omega))]
  have e : (shown node lf top L (cb L k) (cb L k + 1)).leaves = cut L (cb L k) (cb L k + 1) := rfl
  rw [e]
  rw [if_pos (by unfold hitB; rw [hc, cut_len _ _ _ (by omega), getD_cut _ _ _ _ _ (by omega), Bool.and_eq_true, decide_eq_true_eq, decide_eq_true_eq]; exact ⟨by omega, hlt.2⟩), hc, getD_cut _ _ _ _ _ (by omega)]
  rfl
 ·
  rw [if_neg hh, if_neg hh]
  have hu := under_shown node lf top L (cb L k - 1) (min (cb L k + 1) L.length) hv (by omega) (by omega) (by omega)
  have hc : cb (cut L (cb L k - 1) (min (cb L k + 1) L.length)) k = cb L k - (cb L k - 1) := cut_cb v3 k _ _ (by omega) (by omega) (by omega)
  have hl := cut_len L (cb L k - 1) (min (cb L k + 1) L.length) (by omega)
  unfold checkR
  rw [if_pos hu]
  have e : (shown node lf top L (cb L k - 1) (min (cb L k + 1) L.length)).leaves = cut L (cb L k - 1) (min (cb L k + 1) L.length) := rfl
  rw [e, if_neg, if_pos]
  ·
   unfold bounded
   rw [e, hc, hl]
   simp only [Bool.and_eq_true, Bool.or_eq_true, decide_eq_true_eq]
   refine ⟨?_, ?_⟩
   ·
    by_cases h0 : cb L k = 0
    ·
     right; show ((cb L k - 1 : Nat) : Int) = 0; omega
    ·
     left; omega
   ·
    by_cases h0 : cb L k < L.length
    ·
     left; omega
    ·
     right; show ((cb L k - 1 : Nat) : Int) + _ = (L.length : Int); omega
  ·
   intro h
   apply hh
   unfold hitB at h ⊢
   rw [hc, hl] at h
   simp only [Bool.and_eq_true, decide_eq_true_eq] at h ⊢
   have h5 : cb L k < L.length := by omega
   rw [getD_cut _ _ _ _ _ (by omega), show cb L k - 1 + (cb L k - (cb L k - 1)) = cb L k by omega] at h
   exact ⟨h5, h.2⟩
theorem check_range (L : List Lf) (k m : ByteArray) (hv : validE L = 0) (hkm : sl m k = false) : checkRangeR node lf top (rootD node lf top L) k m (rangeR node lf top L k m).1 = (cut L (cb L k) (cb L m), 0) := by
 obtain ⟨v1, v2, v3⟩ := valid_ok hv
 have hcb := cb_le L k
 have hcm := cb_le L m
 have hmo := cb_mono (L := L) hkm
 unfold rangeR
 rw [if_pos hv, if_neg (by rw [hkm]; simp)]
 show checkRangeR node lf top (rootD node lf top L) k m (shown node lf top L (cb L k - 1) (min (cb L m + 1) L.length)) = _
 have hu := under_shown node lf top L (cb L k - 1) (min (cb L m + 1) L.length) hv (by omega) (by omega) (by omega)
 have hc : cb (cut L (cb L k - 1) (min (cb L m + 1) L.length)) k = cb L k - (cb L k - 1) := cut_cb v3 k _ _ (by omega) (by omega) (by omega)
 have hd : cb (cut L (cb L k - 1) (min (cb L m + 1) L.length)) m = cb L m - (cb L k - 1) := cut_cb v3 m _ _ (by omega) (by omega) (by omega)
 have hl := cut_len L (cb L k - 1) (min (cb L m + 1) L.length) (by omega)
 have e : (shown node lf top L (cb L k - 1) (min (cb L m + 1) L.length)).leaves = cut L (cb L k - 1) (min (cb L m + 1) L.length) := rfl
 unfold checkRangeR
 rw [if_neg (by rw [hkm]; simp), if_pos hu, e, if_pos, hc, hd]
 ·
  congr 1
  apply List.ext_getElem?
  intro i
  by_cases hi : i < cb L m - cb L k
  ·
   rw [cut_get _ _ _ _ (by omega), cut_get _ _ _ _ (by omega), cut_get _ _ _ _ (by omega)]
   congr 1; omega
  ·
   rw [List.getElem?_eq_none (by rw [cut_len _ _ _ (by omega)]; omega), List.getElem?_eq_none (by rw [cut_len _ _ _ (by omega)]; omega)]
 ·
  unfold bounded
  rw [e, hc, hd, hl]
  simp only [Bool.and_eq_true, Bool.or_eq_true, decide_eq_true_eq]
  refine ⟨?_, ?_⟩
  ·
   by_cases h0 : cb L k = 0
   ·
    right; show ((cb L k - 1 : Nat) : Int) = 0; omega
   ·
    left; omega
  ·
   by_cases h0 : cb L m < L.length
   ·
    left; omega
   ·
    right; show ((cb L k - 1 : Nat) : Int) + _ = (L.length : Int); omega
end
end Go.Proofs.YtofccgkgjcnfbaaDoor.Wr
