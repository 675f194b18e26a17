/-
  The language of definitions: trees, tokens, the package's reader and writer as functions, the reference's text.
  Plain mathematics: no condition.
-/
import Derived.Test.YtpbhgebblpdmnaaDoorMem
namespace Go.Proofs.YtpbhgebblpdmnaaDoor
namespace Src
set_option linter.unusedVariables false
abbrev Str := List UInt8
inductive Nd where
 | mk (kind : Int) (text : Str) (num : Int) (kids : List Nd)
namespace Nd
def kind : Nd → Int | mk k _ _ _ => k
def text : Nd → Str | mk _ t _ _ => t
def num : Nd → Int | mk _ _ z _ => z
def kids : Nd → List Nd | mk _ _ _ l => l
def zero : Nd := mk 0 [] 0 []
end Nd
open Nd
/-! Tokens. -/
def isL (b : UInt8) : Bool := decide (97 ≤ b.toNat ∧ b.toNat ≤ 122)
def isD (b : UInt8) : Bool := decide (48 ≤ b.toNat ∧ b.toNat ≤ 57)
def isW (b : UInt8) : Bool := isL b || isD b
def wordLen : Str → Nat
 | [] => 0
 | b :: t => if isL b = true ∧ (t.takeWhile isW).length + 1 ≤ 16 then (t.takeWhile isW).length + 1 else 0
def numLen (l : Str) : Nat := if (l.takeWhile isD).length ≤ 3 then (l.takeWhile isD).length else 0
def isS (b : UInt8) : Bool := [40, 41, 123, 125, 43, 45, 42, 59, 46].contains b
def tokLen : Str → Nat
 | [] => 0
 | b :: t =>
  if isL b = true then wordLen (b :: t)
  else if isD b = true then numLen (b :: t)
  else if b = 36 then (if wordLen t = 0 then 0 else wordLen t + 1)
  else if b = 60 ∨ b = 61 then (if t.head? = some 61 then 2 else 1)
  else if isS b = true then 1 else 0
def isBlank (b : UInt8) : Bool := decide (b = 32 ∨ b = 10)
def lex : Nat → Str → Nat → List (Str × Nat) × Nat
 | 0, _, i => ([], i)
 | _ + 1, [], i => ([], i)
 | k + 1, b :: t, i =>
  if isBlank b = true then lex k t (i + 1)
  else if tokLen (b :: t) = 0 then ([], i)
  else (((b :: t).take (tokLen (b :: t)), i) :: (lex k ((b :: t).drop (tokLen (b :: t))) (i + tokLen (b :: t))).1, (lex k ((b :: t).drop (tokLen (b :: t))) (i + tokLen (b :: t))).2)
/-! Words and kinds. -/
def bs (s : String) : Str := s.toUTF8.data.toList
def starts : List Str := ["var", "rec", "chan", "lock", "file", "proc", "test", "", "", "", "", "if", "while", "go", "call", "send", "recv", "acquire", "release", "draw", "now", "sleep", "write", "read", "check", "alloc"].map bs
def wElse : Str := [101, 108, 115, 101]
def wKind : Str := [107, 105, 110, 100]
def wordKind (t : Str) : Option Int :=
 if t = wElse then some (-1)
 else if t = wKind then some 36
 else if t = [] then none
 else (starts.findIdx? (· = t)).map fun k => (k : Int)
def cls (t : Str) : Nat :=
 match t with
 | [] => 0
 | b :: _ => if isL b = true then (if (wordKind t).isSome then 2 else 3) else if isD b = true then 4 else if b = 36 then 5 else 6
def opOf (t : Str) : Nat × Int :=
 if t = [60, 61] then (1, 27) else if t = [61, 61] then (1, 28) else if t = [60] then (1, 26) else if t = [43] then (2, 29) else if t = [45] then (2, 30) else if t = [42] then (3, 31) else (0, 0)
/-! The package's reader. Without fuel it says error 9. -/
structure St where
 toks : List (Str × Nat)
 e : Nat
def St.look (s : St) : Str := if s.e = 0 then (match s.toks with | [] => [] | t :: _ => t.1) else []
def St.adv (s : St) : St := { s with toks := s.toks.tail }
def St.fail (s : St) (e : Nat) : St := if s.e = 0 then { s with e := e } else s
def St.expect (s : St) (t : Str) : St := if s.look = t then s.adv else s.fail 2
def decN (l : Str) : Nat := l.foldl (fun v c => 10 * v + (c.toNat - 48)) 0
def St.getText (s : St) (c : Nat) : Str × St := if cls s.look = c then (s.look, s.adv) else ([], s.fail 2)
def St.name (s : St) : Str × St := s.getText 3
def St.loc (s : St) : Str × St := ((s.getText 5).1.drop 1, (s.getText 5).2)
def St.numeral (s : St) (low high : Nat) : Int × St :=
 if cls s.look ≠ 4 then (0, s.fail 2)
 else if decN s.look < low ∨ high < decN s.look then (0, s.fail 5)
 else ((decN s.look : Int), s.adv)
def St.number (s : St) (low high : Nat) : Int × St :=
 if s.look = [45] then (- (s.adv.numeral low high).1, (s.adv.numeral low high).2) else s.numeral low high
structure Shape where
 word : Str
 parts : Str
 low : Nat
 high : Nat
def shp (w p : String) (low high : Nat) : Shape := ⟨bs w, bs p, low, high⟩
def shapes : List Shape := [shp "var" "n=z;" 0 999, shp "rec" "n{I}" 0 0, shp "chan" "nd;" 0 3, shp "lock" "n;" 0 0, shp "file" "n;" 0 0, shp "proc" "nB" 0 0, shp "test" "nB" 0 0, shp "" "n=z;" 0 999, shp "" "{S}" 0 0, shp "" "l=E;" 0 0, shp "" "P=E;" 0 0, shp "if" "EBO" 0 0, shp "while" "EB" 0 0, shp "go" "n;" 0 0, shp "call" "n;" 0 0, shp "send" "nE;" 0 0, shp "recv" "nL;" 0 0, shp "acquire" "n;" 0 0, shp "release" "n;" 0 0, shp "draw" "ld;" 2 6, shp "now" "l;" 0 0, shp "sleep" "d;" 1 9, shp "write" "nE;" 0 0, shp "read" "nL;" 0 0, shp "check" "E;" 0 0, shp "alloc" "d;" 1 99, shp "" "" 0 0, shp "" "" 0 0, shp "" "" 0 0, shp "" "" 0 0, shp "" "" 0 0, shp "" "" 0 0, shp "" "d" 0 999, shp "" "l" 0 0, shp "" "n" 0 0, shp "" "n" 0 0, shp "kind" "" 0 0]
def shape (k : Nat) : Shape := shapes.getD k ⟨[], [], 0, 0⟩
def St.kindHere (s : St) (first last : Int) : Int :=
 match wordKind s.look with
 | some k => if cls s.look = 2 ∧ first ≤ k ∧ k ≤ last then k else -1
 | none => -1
def St.stmtHere (s : St) : Int := if cls s.look = 5 then 9 else if cls s.look = 3 then 10 else s.kindHere 11 25
def St.place (s : St) : Nd × St :=
 if s.name.2.look = [46] then (.mk 35 (s.name.1 ++ 46 :: s.name.2.adv.name.1) 0 [], s.name.2.adv.name.2)
 else (.mk 34 s.name.1 0 [], s.name.2)
def Nd.push (n k : Nd) : Nd := match n with | mk a t z l => mk a t z (l ++ [k])
def Nd.setText (n : Nd) (t : Str) : Nd := match n with | mk a _ z l => mk a t z l
def Nd.setNum (n : Nd) (z : Int) : Nd := match n with | mk a t _ l => mk a t z l
mutual
def node : Nat → Nat → St → Nd × St
 | 0, _, s => (.zero, s.fail 9)
 | k + 1, kd, s => parts k kd (shape kd).parts (.mk kd [] 0 []) (if (shape kd).word = [] then s else s.expect (shape kd).word)
def parts : Nat → Nat → Str → Nd → St → Nd × St
 | 0, _, _, n, s => (n, s.fail 9)
 | _ + 1, _, [], n, s => (n, s)
 | k + 1, kd, c :: cs, n, s => parts k kd cs (part k kd c n s).1 (part k kd c n s).2
def part : Nat → Nat → UInt8 → Nd → St → Nd × St
 | 0, _, _, n, s => (n, s.fail 9)
 | k + 1, kd, c, n, s =>
  if c = 110 then (n.setText s.name.1, s.name.2)
  else if c = 108 then (n.setText s.loc.1, s.loc.2)
  else if c = 100 then (n.setNum (s.numeral (shape kd).low (shape kd).high).1, (s.numeral (shape kd).low (shape kd).high).2)
  else if c = 122 then (n.setNum (s.number (shape kd).low (shape kd).high).1, (s.number (shape kd).low (shape kd).high).2)
  else if c = 69 then (n.push (ops k 1 s).1, (ops k 1 s).2)
  else if c = 66 then (n.push (node k 8 s).1, (node k 8 s).2)
  else if c = 76 then (n.push (node k 33 s).1, (node k 33 s).2)
  else if c = 80 then (n.push s.place.1, s.place.2)
  else if c = 79 then (if s.look = wElse then (n.push (node k 8 s.adv).1, (node k 8 s.adv).2) else (n, s))
  else if c = 73 then items k n s
  else if c = 83 then stmts k n s
  else (n, s.expect [c])
def items : Nat → Nd → St → Nd × St
 | 0, n, s => (n, s.fail 9)
 | k + 1, n, s => if cls s.look = 3 then items k (n.push (node k 7 s).1) (node k 7 s).2 else (n, s)
def stmts : Nat → Nd → St → Nd × St
 | 0, n, s => (n, s.fail 9)
 | k + 1, n, s => if s.stmtHere ≠ -1 then stmts k (n.push (node k s.stmtHere.toNat s).1) (node k s.stmtHere.toNat s).2 else (n, s)
def ops : Nat → Nat → St → Nd × St
 | 0, _, s => (.zero, s.fail 9)
 | k + 1, lv, s =>
  if lv = 4 then
   if cls s.look = 4 then node k 32 s
   else if cls s.look = 5 then node k 33 s
   else if s.look = [40] then ((ops k 1 s.adv).1, (ops k 1 s.adv).2.expect [41])
   else if s.kindHere 36 36 = 36 then node k 36 s
   else s.place
  else opsMore k lv (ops k (lv + 1) s).1 (ops k (lv + 1) s).2
def opsMore : Nat → Nat → Nd → St → Nd × St
 | 0, _, n, s => (n, s.fail 9)
 | k + 1, lv, n, s =>
  if (opOf s.look).1 = lv then
   if lv = 1 then (.mk (opOf s.look).2 [] 0 [n, (ops k (lv + 1) s.adv).1], (ops k (lv + 1) s.adv).2)
   else opsMore k lv (.mk (opOf s.look).2 [] 0 [n, (ops k (lv + 1) s.adv).1]) (ops k (lv + 1) s.adv).2
  else (n, s)
end
def rdDef (k : Nat) (s : St) : Nd × St := if s.kindHere 0 6 = -1 then (.zero, s.fail 2) else node k (s.kindHere 0 6).toNat s
def rd (l : Str) : Nd × Nat × Nat :=
 let r := rdDef (20 * l.length + 100) ⟨(lex l.length l 0).1, 0⟩
 let at_ := match r.2.toks with | [] => (lex l.length l 0).2 | t :: _ => t.2
 let e := if r.2.e = 0 ∧ at_ < l.length then 2 else r.2.e
 if e ≠ 0 then (.zero, at_, e) else (r.1, 0, 0)
/-! The package's writer. -/
structure Wr where
 text : Str
 bad : Bool
def Wr.put (w : Wr) (t : Str) : Wr :=
 let x := if w.text ≠ [] ∧ w.text.getLast? ≠ some 40 ∧ t ≠ [41] ∧ t ≠ [59] then w.text ++ [32] else w.text
 if 1024 < x.length + t.length then ⟨x, true⟩ else ⟨x ++ t, w.bad⟩
def decD (n : Nat) : Str := if n < 10 then [UInt8.ofNat (48 + n)] else decD (n / 10) ++ [UInt8.ofNat (48 + n % 10)]
def decZ (z : Int) : Str := if z < 0 then 45 :: decD z.natAbs else decD z.natAbs
def signOf (k : Int) : Nat × Str :=
 if k = 26 then (1, [60]) else if k = 27 then (1, [60, 61]) else if k = 28 then (1, [61, 61]) else if k = 29 then (2, [43]) else if k = 30 then (2, [45]) else if k = 31 then (3, [42]) else (0, [])
def wKids (f : Nd → Wr → Wr) : List Nd → Wr → Wr
 | [], w => w
 | n :: l, w => if w.bad = true then w else wKids f l (f n w)
def wPart (f : Nd → Wr → Wr) (n : Nd) (c : UInt8) (l : List Nd) (w : Wr) : List Nd × Wr :=
 if c = 110 then (l, w.put n.text)
 else if c = 108 then (l, w.put (36 :: n.text))
 else if c = 100 ∨ c = 122 then (l, w.put (decZ n.num))
 else if c = 69 ∨ c = 66 ∨ c = 76 ∨ c = 80 then (match l with | [] => ([], { w with bad := true }) | x :: t => (t, f x w))
 else if c = 79 then (match l with | [] => ([], w) | x :: t => (t, f x (w.put wElse)))
 else if c = 73 ∨ c = 83 then ([], wKids f l w)
 else (l, w.put [c])
def wParts (f : Nd → Wr → Wr) (n : Nd) : Str → List Nd → Wr → Wr
 | [], _, w => w
 | c :: cs, l, w => wParts f n cs (wPart f n c l w).1 (wPart f n c l w).2
def wOperand (f : Nd → Wr → Wr) (n : Nd) (least : Nat) (w : Wr) : Wr :=
 if (signOf n.kind).1 = 0 ∨ least ≤ (signOf n.kind).1 then f n w else (f n (w.put [40])).put [41]
def wNode : Nat → Nd → Wr → Wr
 | 0, _, w => { w with bad := true }
 | d + 1, n, w =>
  if n.kind < 0 ∨ 37 ≤ n.kind then { w with bad := true }
  else if w.bad = true then w
  else if (signOf n.kind).1 ≠ 0 then
   match n.kids with
   | [a, b] => wOperand (wNode d) b ((signOf n.kind).1 + 1) ((wOperand (wNode d) a (if (signOf n.kind).1 = 1 then 2 else (signOf n.kind).1) w).put (signOf n.kind).2)
   | _ => { w with bad := true }
  else
   wParts (wNode d) n (shape n.kind.toNat).parts n.kids (if (shape n.kind.toNat).word = [] then w else w.put (shape n.kind.toNat).word)
def Ev {α : Type} (f : Nat → α) (v : α) : Prop := ∃ K, ∀ k, K ≤ k → f k = v
theorem Ev.of {α : Type} {f : Nat → α} {v : α} (h : ∀ k, f k = v) : Ev f v := ⟨0, fun k _ => h k⟩
theorem Ev.succ {α : Type} {f : Nat → α} {v : α} (h : Ev (fun k => f (k + 1)) v) : Ev f v := by
 obtain ⟨K, hK⟩ := h
 refine ⟨K + 1, fun k hk => ?_⟩
 obtain ⟨j, rfl⟩ : ∃ j, k = j + 1 := ⟨k - 1, by omega⟩
 exact hK j (by omega)
theorem Ev.eq {α : Type} {f g : Nat → α} {v : α} (h : Ev g v) (e : ∀ k, f k = g k) : Ev f v := by
 obtain ⟨K, hK⟩ := h
 exact ⟨K, fun k hk => (e k).trans (hK k hk)⟩
theorem Ev.then {α β : Type} {f : Nat → α} {v : α} {g : Nat → α → β} {u : β} (h : Ev f v) (h2 : Ev (fun k => g k v) u) : Ev (fun k => g k (f k)) u := by
 obtain ⟨K, hK⟩ := h
 obtain ⟨L, hL⟩ := h2
 refine ⟨max K L, fun k hk => ?_⟩
 show g k (f k) = u
 rw [hK k (by omega)]
 exact hL k (by omega)
/-! Right trees. -/
def isExpr (k : Int) : Prop := 26 ≤ k ∧ k ≤ 36
def nameOk (t : Str) : Prop := cls t = 3 ∧ wordLen t = t.length
def wordOk (t : Str) : Prop := t ≠ [] ∧ wordLen t = t.length
def textOk (k : Int) (p t : Str) : Prop :=
 if k = 35 then ∃ a b, t = a ++ 46 :: b ∧ nameOk a ∧ nameOk b
 else if (110 : UInt8) ∈ p then nameOk t
 else if (108 : UInt8) ∈ p then wordOk t
 else t = []
def numOk (s : Shape) (z : Int) : Prop :=
 if (100 : UInt8) ∈ s.parts then (s.low : Int) ≤ z ∧ z ≤ (s.high : Int)
 else if (122 : UInt8) ∈ s.parts then -(s.high : Int) ≤ z ∧ z ≤ (s.high : Int)
 else z = 0
def kidsOk (P : Nd → Prop) : Str → List Nd → Prop
 | [], l => l = []
 | c :: cs, l =>
  if c = 69 then ∃ x l', l = x :: l' ∧ isExpr x.kind ∧ P x ∧ kidsOk P cs l'
  else if c = 66 then ∃ x l', l = x :: l' ∧ x.kind = 8 ∧ P x ∧ kidsOk P cs l'
  else if c = 76 then ∃ x l', l = x :: l' ∧ x.kind = 33 ∧ P x ∧ kidsOk P cs l'
  else if c = 80 then ∃ x l', l = x :: l' ∧ (x.kind = 34 ∨ x.kind = 35) ∧ P x ∧ kidsOk P cs l'
  else if c = 79 then (l = [] ∧ kidsOk P cs []) ∨ ∃ x l', l = x :: l' ∧ x.kind = 8 ∧ P x ∧ kidsOk P cs l'
  else if c = 73 then (∀ x ∈ l, x.kind = 7 ∧ P x) ∧ kidsOk P cs []
  else if c = 83 then (∀ x ∈ l, 9 ≤ x.kind ∧ x.kind ≤ 25 ∧ P x) ∧ kidsOk P cs []
  else kidsOk P cs l
def rt : Nat → Nd → Prop
 | 0, _ => False
 | d + 1, n =>
  if 26 ≤ n.kind ∧ n.kind ≤ 31 then n.text = [] ∧ n.num = 0 ∧ ∃ a b, n.kids = [a, b] ∧ isExpr a.kind ∧ isExpr b.kind ∧ rt d a ∧ rt d b
  else 0 ≤ n.kind ∧ n.kind < 37 ∧ textOk n.kind (shape n.kind.toNat).parts n.text ∧ numOk (shape n.kind.toNat) n.num ∧ kidsOk (rt d) (shape n.kind.toNat).parts n.kids
/-! The tokens that are written, and those that are read. -/
def lvl (n : Nd) : Nat := if (signOf n.kind).1 = 0 then 4 else (signOf n.kind).1
def opd (f : Nd → List Str) (least : Nat) (n : Nd) : List Str := if least ≤ lvl n then f n else [[40]] ++ f n ++ [[41]]
def partT (f : Nd → List Str) (n : Nd) (c : UInt8) (l : List Nd) : List Nd × List Str :=
 if c = 110 then (l, [n.text])
 else if c = 108 then (l, [36 :: n.text])
 else if c = 100 ∨ c = 122 then (l, [decZ n.num])
 else if c = 69 ∨ c = 66 ∨ c = 76 ∨ c = 80 then (match l with | [] => ([], []) | x :: t => (t, f x))
 else if c = 79 then (match l with | [] => ([], []) | x :: t => (t, wElse :: f x))
 else if c = 73 ∨ c = 83 then ([], l.flatMap f)
 else (l, [[c]])
def partsT (f : Nd → List Str) (n : Nd) : Str → List Nd → List Str
 | [], _ => []
 | c :: cs, l => (partT f n c l).2 ++ partsT f n cs (partT f n c l).1
def wordT (k : Nat) : List Str := if (shape k).word = [] then [] else [(shape k).word]
def tk : Nat → Nd → List Str
 | 0, _ => []
 | d + 1, n =>
  if (signOf n.kind).1 ≠ 0 then
   match n.kids with
   | [a, b] => opd (tk d) (if (signOf n.kind).1 = 1 then 2 else (signOf n.kind).1) a ++ (signOf n.kind).2 :: opd (tk d) ((signOf n.kind).1 + 1) b
   | _ => []
  else wordT n.kind.toNat ++ partsT (tk d) n (shape n.kind.toNat).parts n.kids
def rawOf (t : Str) : List Str :=
 if t.head? = some 45 ∧ 1 < t.length then [[45], t.tail]
 else if (46 : UInt8) ∈ t ∧ 1 < t.length then [t.takeWhile (· ≠ 46), [46], (t.dropWhile (· ≠ 46)).tail]
 else [t]
def raw (l : List Str) : List Str := l.flatMap rawOf
theorem raw_app (a b : List Str) : raw (a ++ b) = raw a ++ raw b := by unfold raw; simp
theorem raw_cons (t : Str) (b : List Str) : raw (t :: b) = rawOf t ++ raw b := by unfold raw; simp
/-! Reading what is written: states. -/
abbrev Tok := Str × Nat
def S (l : List Tok) : St := ⟨l, 0⟩
def Tk (ts : List Tok) (l : List Str) : Prop := ts.map Prod.fst = l
theorem Tk.cons {ts : List Tok} {t : Str} {l : List Str} (h : Tk ts (t :: l)) : ∃ p ts', ts = (t, p) :: ts' ∧ Tk ts' l := by
 unfold Tk at h
 cases ts with
 | nil => cases h
 | cons x ts' =>
  obtain ⟨a, p⟩ := x
  simp only [List.map_cons, List.cons.injEq] at h
  obtain ⟨rfl, h⟩ := h
  exact ⟨p, ts', rfl, h⟩
theorem Tk.nil {ts : List Tok} (h : Tk ts []) : ts = [] := by unfold Tk at h; simpa using h
theorem Tk.app {ts : List Tok} {a b : List Str} (h : Tk ts (a ++ b)) : ∃ t1 t2, ts = t1 ++ t2 ∧ Tk t1 a ∧ Tk t2 b := by
 obtain ⟨t1, t2, e, h1, h2⟩ := List.map_eq_append_iff.1 h
 exact ⟨t1, t2, e, h1, h2⟩
theorem S_look (t : Str) (p : Nat) (l : List Tok) : (S ((t, p) :: l)).look = t := rfl
theorem S_adv (x : Tok) (l : List Tok) : (S (x :: l)).adv = S l := rfl
theorem S_expect (t : Str) (p : Nat) (l : List Tok) : (S ((t, p) :: l)).expect t = S l := by
 unfold St.expect; rw [S_look, if_pos rfl]; rfl
theorem S_name {t : Str} (p : Nat) (l : List Tok) (h : cls t = 3) : (S ((t, p) :: l)).name = (t, S l) := by
 unfold St.name St.getText; rw [S_look, if_pos h]; rfl
theorem cls_loc (w : Str) : cls (36 :: w) = 5 := by unfold cls; rfl
theorem S_loc (w : Str) (p : Nat) (l : List Tok) : (S ((36 :: w, p) :: l)).loc = (w, S l) := by
 unfold St.loc St.getText; rw [S_look, if_pos (cls_loc w)]; rfl
/-! Numbers. -/
theorem dig_nat (d : Nat) (h : d < 10) : (UInt8.ofNat (48 + d)).toNat = 48 + d := by rw [UInt8.toNat_ofNat']; omega
theorem decN_app (l : Str) (b : UInt8) : decN (l ++ [b]) = 10 * decN l + (b.toNat - 48) := by unfold decN; rw [List.foldl_append]; rfl
theorem decN_decD (n : Nat) : decN (decD n) = n := by
 induction n using Nat.strongRecOn with
 | ind n ih =>
  rw [decD]
  split
  ·
   next h => unfold decN; simp only [List.foldl_cons, List.foldl_nil]; rw [dig_nat n h]; omega
  ·
   rw [decN_app, ih _ (by omega), dig_nat _ (Nat.mod_lt _ (by omega))]; omega
theorem decD_dig (n : Nat) : ∃ b t, decD n = b :: t ∧ isD b = true := by
 induction n using Nat.strongRecOn with
 | ind n ih =>
  rw [decD]
  split
  ·
   next h =>
   refine ⟨_, _, rfl, ?_⟩
   unfold isD; rw [dig_nat n h]; exact decide_eq_true (by omega)
  ·
   obtain ⟨b, t, e, hb⟩ := ih (n / 10) (by omega)
   rw [e]; exact ⟨b, _, rfl, hb⟩
theorem decD_all (n : Nat) : (decD n).all isD = true := by
 induction n using Nat.strongRecOn with
 | ind n ih =>
  rw [decD]
  split
  ·
   next h => simp only [List.all_cons, List.all_nil, Bool.and_true]; unfold isD; rw [dig_nat n h]; exact decide_eq_true (by omega)
  ·
   rw [List.all_append, ih _ (by omega)]
   simp only [List.all_cons, List.all_nil, Bool.and_true, Bool.true_and]
   unfold isD; rw [dig_nat _ (Nat.mod_lt _ (by omega))]; exact decide_eq_true (by omega)
theorem isD_L {b : UInt8} (h : isD b = true) : isL b = false := by
 have := of_decide_eq_true h
 exact decide_eq_false (by omega)
theorem cls_dec (n : Nat) : cls (decD n) = 4 := by
 obtain ⟨b, t, e, hb⟩ := decD_dig n
 rw [e]; unfold cls; dsimp only
 rw [isD_L hb, if_neg (by simp), if_pos hb]
theorem S_numeral (n low high : Nat) (p : Nat) (l : List Tok) (h1 : low ≤ n) (h2 : n ≤ high) : (S ((decD n, p) :: l)).numeral low high = ((n : Int), S l) := by
 unfold St.numeral
 rw [S_look, if_neg (by rw [cls_dec]; simp), decN_decD, if_neg (by omega)]; rfl
/-! Expressions. -/
def fol (lv : Nat) (R : List Tok) : Prop := (opOf (S R).look).1 < lv ∧ (S R).look ≠ [46]
theorem more_stop {lv : Nat} {n : Nd} {R : List Tok} (h : fol lv R) : Ev (fun k => opsMore k lv n (S R)) (n, S R) := by
 refine Ev.succ (Ev.of fun k => ?_)
 rw [opsMore, if_neg (by have := h.1; omega)]
theorem ops_down {lv : Nat} {n : Nd} {s : St} {R : List Tok} {v : Nd × St} (hlv : lv < 4) (h : Ev (fun k => ops k (lv + 1) s) (n, S R)) (h2 : Ev (fun k => opsMore k lv n (S R)) v) : Ev (fun k => ops k lv s) v := by
 refine Ev.succ ?_
 refine Ev.eq (g := fun k => opsMore k lv (ops k (lv + 1) s).1 (ops k (lv + 1) s).2) ?_ (fun k => by rw [ops, if_neg (by omega)])
 exact Ev.then (g := fun k (r : Nd × St) => opsMore k lv r.1 r.2) h h2
structure Ex (d : Nat) (n : Nd) : Prop where
 one : ∀ lv ts R, 1 ≤ lv → lv ≤ 4 → Tk ts (raw (opd (tk d) lv n)) → fol lv R → Ev (fun k => ops k lv (S (ts ++ R))) (n, S R)
 more : ∀ lv ts R v, 2 ≤ lv → lv ≤ 3 → Tk ts (raw (opd (tk d) lv n)) → (opOf (S R).look).1 ≤ lv → (S R).look ≠ [46] → Ev (fun k => opsMore k lv n (S R)) v → Ev (fun k => ops k lv (S (ts ++ R))) v
theorem raw_sign {lv : Nat} {sg : Str} {k : Int} (h : signOf k = (lv, sg)) (h0 : lv ≠ 0) : rawOf sg = [sg] ∧ opOf sg = (lv, k) ∧ 1 ≤ lv ∧ lv ≤ 3 ∧ sg ≠ [46] := by
 unfold signOf at h
 split at h
 ·
  next e => subst e; cases h; refine ⟨by decide, by decide, by decide, by decide, by decide⟩
 split at h
 ·
  next e => subst e; cases h; refine ⟨by decide, by decide, by decide, by decide, by decide⟩
 split at h
 ·
  next e => subst e; cases h; refine ⟨by decide, by decide, by decide, by decide, by decide⟩
 split at h
 ·
  next e => subst e; cases h; refine ⟨by decide, by decide, by decide, by decide, by decide⟩
 split at h
 ·
  next e => subst e; cases h; refine ⟨by decide, by decide, by decide, by decide, by decide⟩
 split at h
 ·
  next e => subst e; cases h; refine ⟨by decide, by decide, by decide, by decide, by decide⟩
 ·
  cases h; exact absurd rfl h0
theorem ex_of {d : Nat} {n : Nd} (hl1 : 1 ≤ lvl n) (hl4 : lvl n ≤ 4)
  (own1 : ∀ ts R, Tk ts (raw (tk d n)) → fol (lvl n) R → Ev (fun k => ops k (lvl n) (S (ts ++ R))) (n, S R))
  (ownM : 2 ≤ lvl n → lvl n ≤ 3 → ∀ ts R v, Tk ts (raw (tk d n)) → (opOf (S R).look).1 ≤ lvl n → (S R).look ≠ [46] → Ev (fun k => opsMore k (lvl n) n (S R)) v → Ev (fun k => ops k (lvl n) (S (ts ++ R))) v) : Ex d n := by
 -- without parentheses, on each lower level
 have low : ∀ j lv ts R, lv + j = lvl n → 1 ≤ lv → Tk ts (raw (tk d n)) → fol lv R → Ev (fun k => ops k lv (S (ts ++ R))) (n, S R) := by
  intro j
  induction j with
  | zero =>
   intro lv ts R e h1 ht hf; obtain rfl : lv = lvl n := by omega
   exact own1 ts R ht hf
  | succ j ih =>
   intro lv ts R e h1 ht hf
   exact ops_down (by omega) (ih (lv + 1) ts R (by omega) (by omega) ht ⟨by have := hf.1; omega, hf.2⟩) (more_stop hf)
 -- in parentheses, as a factor
 have par : ∀ ts R, Tk ts (raw ([[40]] ++ tk d n ++ [[41]])) → Ev (fun k => ops k 4 (S (ts ++ R))) (n, S R) := by
  intro ts R ht
  rw [raw_app, raw_app] at ht
  obtain ⟨t1, t3, rfl, ht1, ht3⟩ := ht.app
  obtain ⟨t0, t2, rfl, ht0, ht2⟩ := ht1.app
  have e40 : raw [[40]] = [[40]] := by decide
  have e41 : raw [[41]] = [[41]] := by decide
  rw [e40] at ht0; rw [e41] at ht3
  obtain ⟨p, _, rfl, h0⟩ := ht0.cons
  obtain rfl := h0.nil
  obtain ⟨q, _, rfl, h3⟩ := ht3.cons
  obtain rfl := h3.nil
  have hin := low (lvl n - 1) 1 t2 (([41], q) :: R) (by omega) (by omega) ht2 ⟨by rw [S_look]; decide, by rw [S_look]; decide⟩
  refine Ev.succ ?_
  have es : S (([([40], p)] ++ t2 ++ [([41], q)]) ++ R) = S (([40], p) :: (t2 ++ ([41], q) :: R)) := by simp
  rw [es]
  refine Ev.eq (g := fun k => ((ops k 1 (S (t2 ++ ([41], q) :: R))).1, (ops k 1 (S (t2 ++ ([41], q) :: R))).2.expect [41])) ?_ (fun k => by
   rw [ops, if_pos rfl, S_look, S_adv, if_neg (by decide), if_neg (by decide), if_pos rfl])
  exact Ev.then (g := fun k (r : Nd × St) => (r.1, r.2.expect [41])) hin (Ev.of fun k => by rw [S_expect])
 have parD : ∀ j lv ts R, lv + j = 4 → 1 ≤ lv → Tk ts (raw ([[40]] ++ tk d n ++ [[41]])) → fol lv R → Ev (fun k => ops k lv (S (ts ++ R))) (n, S R) := by
  intro j
  induction j with
  | zero =>
   intro lv ts R e h1 ht hf; obtain rfl : lv = 4 := by omega
   exact par ts R ht
  | succ j ih =>
   intro lv ts R e h1 ht hf
   exact ops_down (by omega) (ih (lv + 1) ts R (by omega) (by omega) ht ⟨by have := hf.1; omega, hf.2⟩) (more_stop hf)
 have one : ∀ lv ts R, 1 ≤ lv → lv ≤ 4 → Tk ts (raw (opd (tk d) lv n)) → fol lv R → Ev (fun k => ops k lv (S (ts ++ R))) (n, S R) := by
  intro lv ts R h1 h4 ht hf
  unfold opd at ht
  by_cases hle : lv ≤ lvl n
  ·
   rw [if_pos hle] at ht
   exact low (lvl n - lv) lv ts R (by omega) h1 ht hf
  ·
   rw [if_neg hle] at ht
   exact parD (4 - lv) lv ts R (by omega) h1 ht hf
 refine ⟨one, ?_⟩
 intro lv ts R v h2 h3 ht hop hdot hv
 by_cases he : lvl n = lv
 ·
  subst he
  unfold opd at ht
  rw [if_pos (Nat.le_refl _)] at ht
  exact ownM h2 h3 ts R v ht hop hdot hv
 ·
  refine ops_down (by omega) (one (lv + 1) ts R (by omega) (by omega) ?_ ⟨by omega, hdot⟩) hv
  unfold opd at ht ⊢
  by_cases hle : lv ≤ lvl n
  ·
   rw [if_pos hle] at ht; rw [if_pos (by omega)]; exact ht
  ·
   rw [if_neg hle] at ht; rw [if_neg (by omega)]; exact ht
theorem lvl_op {n : Nd} {lv : Nat} {sg : Str} (h : signOf n.kind = (lv, sg)) (h0 : lv ≠ 0) : lvl n = lv := by
 unfold lvl; rw [h]; exact if_neg h0
theorem tk_op {d : Nat} {n a b : Nd} {lv : Nat} {sg : Str} (h : signOf n.kind = (lv, sg)) (h0 : lv ≠ 0) (hk : n.kids = [a, b]) : tk (d + 1) n = opd (tk d) (if lv = 1 then 2 else lv) a ++ sg :: opd (tk d) (lv + 1) b := by
 rw [tk, h, hk]
 dsimp only
 rw [if_pos h0]
theorem ex_op {d : Nat} {k : Int} {a b : Nd} {lv : Nat} {sg : Str} (h : signOf k = (lv, sg)) (h0 : lv ≠ 0) (ha : Ex d a) (hb : Ex d b) : Ex (d + 1) (.mk k [] 0 [a, b]) := by
 obtain ⟨hraw, hop, h1, h3, hdot⟩ := raw_sign h h0
 have hl : lvl (.mk k [] 0 [a, b]) = lv := lvl_op (n := .mk k [] 0 [a, b]) h h0
 have ht := tk_op (d := d) (n := .mk k [] 0 [a, b]) h h0 rfl
 have hlook : ∀ p l, (opOf (S ((sg, p) :: l)).look) = (lv, k) := fun p l => by rw [S_look, hop]
 -- the second operand
 have hbb : ∀ t2 R, Tk t2 (raw (opd (tk d) (lv + 1) b)) → (opOf (S R).look).1 ≤ lv → (S R).look ≠ [46] → Ev (fun k => ops k (lv + 1) (S (t2 ++ R))) (b, S R) := fun t2 R ht2 hop2 hd => hb.one (lv + 1) t2 R (by omega) (by omega) ht2 ⟨by omega, hd⟩
 have ownM : 2 ≤ lv → ∀ ts R v, Tk ts (raw (tk (d + 1) (.mk k [] 0 [a, b]))) → (opOf (S R).look).1 ≤ lv → (S R).look ≠ [46] → Ev (fun j => opsMore j lv (.mk k [] 0 [a, b]) (S R)) v → Ev (fun j => ops j lv (S (ts ++ R))) v := by
  intro h2 ts R v hts hopR hdR hv
  rw [ht, raw_app, raw_cons, hraw, if_neg (by omega)] at hts
  obtain ⟨t1, t2, rfl, ht1, ht2⟩ := hts.app
  obtain ⟨p, t3, rfl, ht3⟩ := ht2.cons
  have es : S ((t1 ++ (sg, p) :: t3) ++ R) = S (t1 ++ (sg, p) :: (t3 ++ R)) := by simp
  rw [es]
  refine ha.more lv t1 ((sg, p) :: (t3 ++ R)) v h2 h3 ht1 (by rw [hlook]; exact Nat.le_refl _) (by rw [S_look]; exact hdot) ?_
  refine Ev.succ ?_
  refine Ev.eq (g := fun j => opsMore j lv (.mk k [] 0 [a, (ops j (lv + 1) (S (t3 ++ R))).1]) (ops j (lv + 1) (S (t3 ++ R))).2) ?_ (fun j => by
   rw [opsMore, hlook, if_pos rfl, if_neg (by omega), S_adv])
  exact Ev.then (g := fun j (r : Nd × St) => opsMore j lv (.mk k [] 0 [a, r.1]) r.2) (hbb t3 R ht3 hopR hdR) hv
 refine ex_of (by omega) (by omega) ?_ ?_
 ·
  rw [hl]
  intro ts R hts hf
  by_cases h2 : 2 ≤ lv
  ·
   exact ownM h2 ts R _ hts (by have := hf.1; omega) hf.2 (more_stop hf)
  ·
   obtain rfl : lv = 1 := by omega
   rw [ht, raw_app, raw_cons, hraw, if_pos rfl] at hts
   obtain ⟨t1, t2, rfl, ht1, ht2⟩ := hts.app
   obtain ⟨p, t3, rfl, ht3⟩ := ht2.cons
   have es : S ((t1 ++ (sg, p) :: t3) ++ R) = S (t1 ++ (sg, p) :: (t3 ++ R)) := by simp
   rw [es]
   refine ops_down (by omega) (ha.one 2 t1 ((sg, p) :: (t3 ++ R)) (by omega) (by omega) ht1 ⟨by rw [hlook]; show 1 < 2; omega, by rw [S_look]; exact hdot⟩) ?_
   refine Ev.succ ?_
   refine Ev.eq (g := fun j => (.mk k [] 0 [a, (ops j 2 (S (t3 ++ R))).1], (ops j 2 (S (t3 ++ R))).2)) ?_ (fun j => by
    rw [opsMore, hlook, if_pos rfl, if_pos rfl, S_adv])
   exact Ev.then (g := fun j (r : Nd × St) => (Nd.mk k [] 0 [a, r.1], r.2)) (hbb t3 R ht3 (by have := hf.1; omega) hf.2) (Ev.of fun _ => rfl)
 ·
  rw [hl]
  intro h2 _ ts R v hts hopR hdR hv
  exact ownM h2 ts R v hts hopR hdR hv
/-! Names. -/
theorem cls_name {t : Str} (h : cls t = 3) : ∃ b u, t = b :: u ∧ isL b = true ∧ wordKind t = none := by
 cases t with
 | nil => cases h
 | cons b u =>
  unfold cls at h; dsimp only at h
  by_cases hb : isL b = true
  ·
   rw [if_pos hb] at h
   cases hw : wordKind (b :: u) with
   | none => exact ⟨b, u, rfl, hb, by first | exact hw | rfl⟩
   | some x => rw [hw] at h; simp at h
  ·
   rw [if_neg hb] at h
   split at h
   ·
    cases h
   ·
    split at h <;> cases h
theorem word_all {t : Str} (h : wordLen t = t.length) (x : UInt8) (hx : x ∈ t) : isW x = true := by
 cases t with
 | nil => cases hx
 | cons b u =>
  rw [wordLen] at h
  by_cases hc : isL b = true ∧ (u.takeWhile isW).length + 1 ≤ 16
  ·
   rw [if_pos hc, List.length_cons] at h
   have hl : (u.takeWhile isW).length = u.length := by omega
   have he : u.takeWhile isW = u := (List.takeWhile_prefix (p := isW)).eq_of_length hl
   rcases List.mem_cons.1 hx with rfl | hx
   ·
    unfold isW; rw [hc.1]; rfl
   ·
    rw [← he] at hx
    exact List.all_eq_true.1 (List.all_takeWhile (l := u) (p := isW)) x hx
  ·
   rw [if_neg hc] at h; simp at h
theorem nodot {t : Str} (h : wordLen t = t.length) : (46 : UInt8) ∉ t ∧ (45 : UInt8) ∉ t := by
 constructor
 ·
  intro hx; exact absurd (word_all h _ hx) (by decide)
 ·
  intro hx; exact absurd (word_all h _ hx) (by decide)
theorem rawOf_plain {t : Str} (h1 : (46 : UInt8) ∉ t) (h2 : t.head? ≠ some 45) : rawOf t = [t] := by
 unfold rawOf; rw [if_neg (fun h => h2 h.1), if_neg (fun h => h1 h.1)]
theorem rawOf_word {t : Str} (h : wordLen t = t.length) : rawOf t = [t] := by
 obtain ⟨h1, h2⟩ := nodot h
 exact rawOf_plain h1 (fun e => h2 (List.mem_of_mem_head? e))
theorem rawOf_loc {t : Str} (h : wordLen t = t.length) : rawOf (36 :: t) = [36 :: t] := by
 obtain ⟨h1, h2⟩ := nodot h
 refine rawOf_plain (fun hx => ?_) (by simp)
 rcases List.mem_cons.1 hx with e | hx
 ·
  exact absurd e (by decide)
 ·
  exact h1 hx
theorem rawOf_field {a b : Str} (ha : wordLen a = a.length) (h0 : a ≠ []) : rawOf (a ++ 46 :: b) = [a, [46], b] := by
 obtain ⟨h1, h2⟩ := nodot ha
 obtain ⟨x, u, rfl⟩ : ∃ x u, a = x :: u := by cases a with | nil => exact absurd rfl h0 | cons x u => exact ⟨x, u, rfl⟩
 unfold rawOf
 rw [if_neg (by rintro ⟨h, _⟩; simp at h; exact h2 (by rw [h]; exact List.mem_cons_self)), if_pos ⟨by simp, by simp; omega⟩]
 have hp : ∀ y ∈ x :: u, (decide (y ≠ 46)) = true := fun y hy => decide_eq_true (fun e => h1 (by rw [← e]; exact hy))
 have e1 : (x :: u ++ 46 :: b).takeWhile (fun y => decide (y ≠ 46)) = x :: u := by
  rw [List.takeWhile_append_of_pos hp]; simp
 have e2 : (x :: u ++ 46 :: b).dropWhile (fun y => decide (y ≠ 46)) = 46 :: b := by
  rw [List.dropWhile_append_of_pos hp]; simp
 rw [e1, e2]; rfl
theorem rawOf_dec (n : Nat) : rawOf (decD n) = [decD n] := by
 have hall := decD_all n
 refine rawOf_plain (fun hx => absurd (List.all_eq_true.1 hall _ hx) (by decide)) (fun e => ?_)
 exact absurd (List.all_eq_true.1 hall _ (List.mem_of_mem_head? e)) (by decide)
theorem S_place_name {t : Str} (p : Nat) (R : List Tok) (h : cls t = 3) (hd : (S R).look ≠ [46]) : (S ((t, p) :: R)).place = (.mk 34 t 0 [], S R) := by
 unfold St.place
 rw [S_name p R h, if_neg hd]
theorem S_place_field {a b : Str} (p q r : Nat) (R : List Tok) (ha : cls a = 3) (hb : cls b = 3) : (S ((a, p) :: ([46], q) :: (b, r) :: R)).place = (.mk 35 (a ++ 46 :: b) 0 [], S R) := by
 unfold St.place
 rw [S_name p _ ha]
 dsimp only
 rw [S_look, if_pos rfl, S_adv, S_name r R hb]
/-! Nodes that are no operations. -/
structure Rdy (d : Nat) (x : Nd) : Prop where
 nod : (signOf x.kind).1 = 0 → x.kind ≠ 34 → x.kind ≠ 35 → ∀ ts R, Tk ts (raw (tk d x)) → (x.kind = 11 → (S R).look ≠ wElse) → Ev (fun k => node k x.kind.toNat (S (ts ++ R))) (x, S R)
 exp : isExpr x.kind → Ex d x
theorem tk_leaf {d : Nat} {n : Nd} (h : (signOf n.kind).1 = 0) : tk (d + 1) n = wordT n.kind.toNat ++ partsT (tk d) n (shape n.kind.toNat).parts n.kids := by
 rw [tk, if_neg (by rw [h]; simp)]
theorem rt_pos {d : Nat} {x : Nd} (h : rt d x) : ∃ e, d = e + 1 := by
 cases d with
 | zero => exact absurd h (by unfold rt; simp)
 | succ e => exact ⟨e, rfl⟩
theorem rt_leaf {d : Nat} {n : Nd} (h : rt (d + 1) n) (hk : ¬ (26 ≤ n.kind ∧ n.kind ≤ 31)) : 0 ≤ n.kind ∧ n.kind < 37 ∧ textOk n.kind (shape n.kind.toNat).parts n.text ∧ numOk (shape n.kind.toNat) n.num ∧ kidsOk (rt d) (shape n.kind.toNat).parts n.kids := by
 unfold rt at h; rw [if_neg hk] at h; exact h
theorem sign_leaf {k : Int} (h : ¬ (26 ≤ k ∧ k ≤ 31)) : (signOf k).1 = 0 := by
 unfold signOf
 rw [if_neg (by omega), if_neg (by omega), if_neg (by omega), if_neg (by omega), if_neg (by omega), if_neg (by omega)]
theorem place_any {d : Nat} {x : Nd} (h : rt d x) (hk : x.kind = 34 ∨ x.kind = 35) (ts R : List Tok) (ht : Tk ts (raw (tk d x))) (hd : (S R).look ≠ [46]) : (S (ts ++ R)).place = (x, S R) := by
 obtain ⟨e, rfl⟩ := rt_pos h
 have hn : ¬ (26 ≤ x.kind ∧ x.kind ≤ 31) := by omega
 obtain ⟨_, _, htx, hz, hks⟩ := rt_leaf h hn
 rw [tk_leaf (sign_leaf hn)] at ht
 obtain ⟨k, t, z, l⟩ := x
 simp only [Nd.kind, Nd.text, Nd.num, Nd.kids] at *
 rcases hk with rfl | rfl
 ·
  have e1 : (shape (34 : Int).toNat).parts = [110] := by decide
  have e2 : wordT (34 : Int).toNat = [] := by decide
  rw [e1] at htx hks ht; rw [e2] at ht
  unfold textOk at htx
  rw [if_neg (by decide), if_pos (by decide)] at htx
  unfold numOk at hz
  rw [e1, if_neg (by decide), if_neg (by decide)] at hz
  have hl : l = [] := by simpa [kidsOk] using hks
  subst hl hz
  simp only [partsT, partT, if_true, List.append_nil, List.nil_append, Nd.text] at ht
  rw [raw_cons, rawOf_word htx.2] at ht
  obtain ⟨p, _, rfl, h0⟩ := Tk.cons ht
  obtain rfl := h0.nil
  exact S_place_name p R htx.1 hd
 ·
  have e1 : (shape (35 : Int).toNat).parts = [110] := by decide
  have e2 : wordT (35 : Int).toNat = [] := by decide
  rw [e1] at htx hks ht; rw [e2] at ht
  unfold textOk at htx
  rw [if_pos rfl] at htx
  unfold numOk at hz
  rw [e1, if_neg (by decide), if_neg (by decide)] at hz
  have hl : l = [] := by simpa [kidsOk] using hks
  obtain ⟨a, b, rfl, ha, hb⟩ := htx
  subst hl hz
  simp only [partsT, partT, if_true, List.append_nil, List.nil_append, Nd.text] at ht
  have hne : a ≠ [] := by intro e; rw [e] at ha; exact absurd ha.1 (by decide)
  rw [raw_cons, rawOf_field ha.2 hne] at ht
  obtain ⟨p, u1, rfl, h1⟩ := Tk.cons ht
  obtain ⟨q, u2, rfl, h2⟩ := Tk.cons h1
  obtain ⟨r, u3, rfl, h3⟩ := Tk.cons h2
  obtain rfl := Tk.nil h3
  exact S_place_field p q r R ha.1 hb.1
theorem raw_word (k : Nat) (h : k < 37) : rawOf (shape k).word = [(shape k).word] ∨ (shape k).word = [] := by
 have : ∀ k, k < 37 → (rawOf (shape k).word = [(shape k).word] ∨ (shape k).word = []) := by decide
 exact this k h
def nextOk : Str → Bool
 | [] => true
 | [c] => c ≠ 69 && c ≠ 80 && c ≠ 73 && c ≠ 83
 | c :: e :: cs => (if c = 69 then e = 59 || e = 66 else if c = 80 then e = 61 else if c = 73 || c = 83 then e = 125 else if c = 79 then false else true) && nextOk (e :: cs)
theorem shapes_next : ∀ k, k < 37 → nextOk (shape k).parts = true := by decide
theorem block_first {d : Nat} {x : Nd} (h : rt d x) (hk : x.kind = 8) : ∃ l, raw (tk d x) = [123] :: l := by
 obtain ⟨e, rfl⟩ := rt_pos h
 rw [tk_leaf (sign_leaf (by omega)), hk]
 have e1 : (shape (8 : Int).toNat).parts = [123, 83, 125] := by decide
 have e2 : wordT (8 : Int).toNat = [] := by decide
 rw [e1, e2, List.nil_append]
 simp only [partsT, partT]
 rw [if_neg (by decide), if_neg (by decide), if_neg (by decide), if_neg (by decide), if_neg (by decide), if_neg (by decide)]
 exact ⟨_, by rw [raw_app, raw_cons, show rawOf [123] = [[123]] by decide]; rfl⟩
theorem stmt_first {d : Nat} {x : Nd} (h : rt d x) (hk : 9 ≤ x.kind ∧ x.kind ≤ 25) : ∃ t l, raw (tk d x) = t :: l ∧ t ≠ wElse ∧ ∀ p R, (S ((t, p) :: R)).stmtHere = x.kind := by
 obtain ⟨e, rfl⟩ := rt_pos h
 have hn : ¬ (26 ≤ x.kind ∧ x.kind ≤ 31) := by omega
 obtain ⟨_, _, htx, hz, hks⟩ := rt_leaf h hn
 rw [tk_leaf (sign_leaf hn)]
 obtain ⟨k, t, z, l⟩ := x
 simp only [Nd.kind, Nd.text, Nd.num, Nd.kids] at *
 have hcase : ∀ k : Nat, 11 ≤ k → k ≤ 25 → (shape k).word ≠ [] ∧ rawOf (shape k).word = [(shape k).word] ∧ (shape k).word ≠ wElse ∧ cls (shape k).word = 2 ∧ wordKind (shape k).word = some (k : Int) := by
  have : ∀ k : Nat, k < 26 → 11 ≤ k → (shape k).word ≠ [] ∧ rawOf (shape k).word = [(shape k).word] ∧ (shape k).word ≠ wElse ∧ cls (shape k).word = 2 ∧ wordKind (shape k).word = some (k : Int) := by decide
  intro k h1 h2; exact this k (by omega) h1
 rcases (show k = 9 ∨ k = 10 ∨ 11 ≤ k by omega) with rfl | rfl | h11
 ·
  have e1 : (shape (9 : Int).toNat).parts = [108, 61, 69, 59] := by decide
  have e2 : wordT (9 : Int).toNat = [] := by decide
  rw [e1] at htx; rw [e1, e2, List.nil_append]
  unfold textOk at htx
  rw [if_neg (by decide), if_neg (by decide), if_pos (by decide)] at htx
  rw [partsT, raw_app]
  have e3 : (partT (tk e) (.mk 9 t z l) 108 l).2 = [36 :: t] := by unfold partT; rw [if_neg (by decide), if_pos rfl]; rfl
  rw [e3, raw_cons, rawOf_loc htx.2]
  refine ⟨36 :: t, _, rfl, (by intro e; cases e), fun p R => ?_⟩
  unfold St.stmtHere; rw [S_look, if_pos (cls_loc t)]
 ·
  have e1 : (shape (10 : Int).toNat).parts = [80, 61, 69, 59] := by decide
  have e2 : wordT (10 : Int).toNat = [] := by decide
  rw [e1] at hks; rw [e1, e2, List.nil_append]
  have hk2 : ∃ x l', l = x :: l' ∧ (x.kind = 34 ∨ x.kind = 35) ∧ rt e x := by
   rw [kidsOk] at hks
   rw [if_neg (by decide), if_neg (by decide), if_neg (by decide), if_pos rfl] at hks
   obtain ⟨x, l', h1, h2, h3, _⟩ := hks
   exact ⟨x, l', h1, h2, h3⟩
  obtain ⟨x, l', rfl, hx, hr⟩ := hk2
  rw [partsT, raw_app]
  have e3 : (partT (tk e) (.mk 10 t z (x :: l')) 80 (x :: l')).2 = tk e x := by unfold partT; rw [if_neg (by decide), if_neg (by decide), if_neg (by decide), if_pos (by decide)]
  rw [e3]
  obtain ⟨f, rfl⟩ := rt_pos hr
  have hn2 : ¬ (26 ≤ x.kind ∧ x.kind ≤ 31) := by omega
  obtain ⟨_, _, htx2, _, hks2⟩ := rt_leaf hr hn2
  rw [tk_leaf (sign_leaf hn2)]
  have f1 : (shape x.kind.toNat).parts = [110] ∧ wordT x.kind.toNat = [] := by
   rcases hx with h | h <;> rw [h] <;> decide
  rw [f1.1] at htx2; rw [f1.1, f1.2, List.nil_append]
  simp only [partsT, partT, if_true, List.append_nil]
  have hname : ∃ a m, raw [x.text] = a :: m ∧ nameOk a := by
   unfold textOk at htx2
   rcases hx with h | h
   ·
    rw [if_neg (by omega), if_pos (by decide)] at htx2
    exact ⟨x.text, [], by rw [raw_cons, rawOf_word htx2.2]; rfl, htx2⟩
   ·
    rw [if_pos h] at htx2
    obtain ⟨a, b, hab, ha, hb⟩ := htx2
    have hne : a ≠ [] := by intro e; rw [e] at ha; exact absurd ha.1 (by decide)
    exact ⟨a, [[46], b], by rw [hab, raw_cons, rawOf_field ha.2 hne]; rfl, ha⟩
  obtain ⟨a, m, hraw, ha⟩ := hname
  rw [hraw]
  refine ⟨a, _, rfl, (by intro e; rw [e] at ha; exact absurd ha.1 (by decide)), fun p R => ?_⟩
  unfold St.stmtHere; rw [S_look, if_neg (by rw [ha.1]; decide), if_pos ha.1]
 ·
  obtain ⟨j, rfl⟩ : ∃ j : Nat, k = (j : Int) := ⟨k.toNat, by omega⟩
  obtain ⟨g1, g2, g3, g4, g5⟩ := hcase j (by omega) (by omega)
  have ej : (j : Int).toNat = j := by simp
  have gw : wordT j = [(shape j).word] := by unfold wordT; rw [if_neg g1]
  rw [ej, gw, raw_app, raw_cons, g2]
  refine ⟨(shape j).word, _, rfl, g3, fun p R => ?_⟩
  unfold St.stmtHere
  rw [S_look, if_neg (by rw [g4]; decide), if_neg (by rw [g4]; decide)]
  unfold St.kindHere
  rw [S_look, g5]
  dsimp only
  rw [if_pos ⟨g4, by omega, by omega⟩]
theorem rawOf_one (c : UInt8) : rawOf [c] = [[c]] := by
 unfold rawOf; rw [if_neg (by simp), if_neg (by simp)]
theorem lvl_pos (n : Nd) : 1 ≤ lvl n := by
 unfold lvl; split <;> omega
theorem opd_one (f : Nd → List Str) (n : Nd) : opd f 1 n = f n := by unfold opd; rw [if_pos (lvl_pos n)]
def pushes (m : Nd) (l : List Nd) : Nd := .mk m.kind m.text m.num (m.kids ++ l)
theorem push_one (m x : Nd) : m.push x = pushes m [x] := by cases m; rfl
theorem pushes_app (m : Nd) (a b : List Nd) : pushes (pushes m a) b = pushes m (a ++ b) := by cases m; simp [pushes, Nd.kind, Nd.text, Nd.num, Nd.kids]
theorem pushes_nil (m : Nd) : pushes m [] = m := by cases m; simp [pushes, Nd.kind, Nd.text, Nd.num, Nd.kids]
theorem item_first {d : Nat} {x : Nd} (h : rt d x) (hk : x.kind = 7) : ∃ t l, raw (tk d x) = t :: l ∧ cls t = 3 := by
 obtain ⟨e, rfl⟩ := rt_pos h
 have hn : ¬ (26 ≤ x.kind ∧ x.kind ≤ 31) := by omega
 obtain ⟨_, _, htx, _, _⟩ := rt_leaf h hn
 rw [tk_leaf (sign_leaf hn)]
 rw [hk] at htx ⊢
 have e1 : (shape (7 : Int).toNat).parts = [110, 61, 122, 59] := by decide
 have e2 : wordT (7 : Int).toNat = [] := by decide
 rw [e1] at htx; rw [e1, e2, List.nil_append]
 unfold textOk at htx
 rw [if_neg (by decide), if_pos (by decide)] at htx
 rw [partsT, raw_app]
 have e3 : (partT (tk e) x 110 x.kids).2 = [x.text] := by unfold partT; rw [if_pos rfl]
 rw [e3, raw_cons, rawOf_word htx.2]
 exact ⟨x.text, _, rfl, htx.1⟩
theorem items_any {d : Nat} (hr : ∀ x, rt d x → Rdy d x) : ∀ (l : List Nd) (m : Nd) (ts R : List Tok), (∀ x ∈ l, x.kind = 7 ∧ rt d x) → Tk ts (raw (l.flatMap (tk d))) → cls (S R).look ≠ 3 → Ev (fun k => items k m (S (ts ++ R))) (pushes m l, S R) := by
 intro l
 induction l with
 | nil =>
  intro m ts R _ ht hc
  obtain rfl := Tk.nil ht
  rw [pushes_nil, List.nil_append]
  refine Ev.succ (Ev.of fun k => ?_)
  rw [items, if_neg hc]
 | cons x l ih =>
  intro m ts R hx ht hc
  rw [List.flatMap_cons, raw_app] at ht
  obtain ⟨t1, t2, rfl, ht1, ht2⟩ := Tk.app ht
  obtain ⟨hk, hrt⟩ := hx x List.mem_cons_self
  obtain ⟨t, rest, hf, hcl⟩ := item_first hrt hk
  have hlook : cls (S ((t1 ++ t2) ++ R)).look = 3 := by
   rw [hf] at ht1
   obtain ⟨p, u, rfl, _⟩ := Tk.cons ht1
   exact hcl
  have hno := (hr x hrt).nod (sign_leaf (by omega)) (by omega) (by omega) t1 (t2 ++ R) ht1 (fun e => by omega)
  have h7 : x.kind.toNat = 7 := by rw [hk]; rfl
  rw [h7] at hno
  refine Ev.succ ?_
  refine Ev.eq (g := fun k => items k (m.push (node k 7 (S ((t1 ++ t2) ++ R))).1) (node k 7 (S ((t1 ++ t2) ++ R))).2) ?_ (fun k => by rw [items, if_pos hlook])
  rw [List.append_assoc]
  refine Ev.then (g := fun k (r : Nd × St) => items k (m.push r.1) r.2) hno ?_
  have := ih (m.push x) t2 R (fun y hy => hx y (List.mem_cons_of_mem _ hy)) ht2 hc
  rw [push_one, pushes_app] at this
  rw [push_one]
  exact this
theorem stmts_any {d : Nat} (hr : ∀ x, rt d x → Rdy d x) : ∀ (l : List Nd) (m : Nd) (ts R : List Tok), (∀ x ∈ l, 9 ≤ x.kind ∧ x.kind ≤ 25 ∧ rt d x) → Tk ts (raw (l.flatMap (tk d))) → (S R).stmtHere = -1 → (S R).look ≠ wElse → Ev (fun k => stmts k m (S (ts ++ R))) (pushes m l, S R) := by
 intro l
 induction l with
 | nil =>
  intro m ts R _ ht hc _
  obtain rfl := Tk.nil ht
  rw [pushes_nil, List.nil_append]
  refine Ev.succ (Ev.of fun k => ?_)
  rw [stmts, if_neg (by rw [hc]; simp)]
 | cons x l ih =>
  intro m ts R hx ht hc hce
  rw [List.flatMap_cons, raw_app] at ht
  obtain ⟨t1, t2, rfl, ht1, ht2⟩ := Tk.app ht
  obtain ⟨hk1, hk2, hrt⟩ := hx x List.mem_cons_self
  obtain ⟨t, rest, hf, _, hsh⟩ := stmt_first hrt ⟨hk1, hk2⟩
  have hlook : (S ((t1 ++ t2) ++ R)).stmtHere = x.kind := by
   rw [hf] at ht1
   obtain ⟨p, u, rfl, _⟩ := Tk.cons ht1
   exact hsh p _
  have hnext : (S (t2 ++ R)).look ≠ wElse := by
   cases l with
   | nil => obtain rfl := Tk.nil ht2; exact hce
   | cons y l =>
    obtain ⟨hy1, hy2, hyr⟩ := hx y (by simp)
    obtain ⟨t', rest', hf', hne', _⟩ := stmt_first hyr ⟨hy1, hy2⟩
    rw [List.flatMap_cons, raw_app, hf'] at ht2
    obtain ⟨p, u, rfl, _⟩ := Tk.cons ht2
    exact hne'
  have hno := (hr x hrt).nod (sign_leaf (by omega)) (by omega) (by omega) t1 (t2 ++ R) ht1 (fun _ => hnext)
  refine Ev.succ ?_
  refine Ev.eq (g := fun k => stmts k (m.push (node k x.kind.toNat (S ((t1 ++ t2) ++ R))).1) (node k x.kind.toNat (S ((t1 ++ t2) ++ R))).2) ?_ (fun k => by rw [stmts, if_pos (by rw [hlook]; omega), hlook])
  rw [List.append_assoc]
  refine Ev.then (g := fun k (r : Nd × St) => stmts k (m.push r.1) r.2) hno ?_
  have := ih (m.push x) t2 R (fun y hy => hx y (List.mem_cons_of_mem _ hy)) ht2 hc hce
  rw [push_one, pushes_app] at this
  rw [push_one]
  exact this
def fin (n : Nd) (cs : Str) (l : List Nd) (m : Nd) : Nd :=
 .mk m.kind (if (110 : UInt8) ∈ cs ∨ (108 : UInt8) ∈ cs then n.text else m.text) (if (100 : UInt8) ∈ cs ∨ (122 : UInt8) ∈ cs then n.num else m.num) (m.kids ++ l)
theorem decZ_nat {z : Int} (h : 0 ≤ z) : decZ z = decD z.natAbs := by unfold decZ; rw [if_neg (by omega)]
theorem decZ_neg {z : Int} (h : z < 0) : rawOf (decZ z) = [[45], decD z.natAbs] := by
 have e : decZ z = 45 :: decD z.natAbs := by unfold decZ; rw [if_pos h]
 obtain ⟨b, t, hd, _⟩ := decD_dig z.natAbs
 rw [e]; unfold rawOf; rw [if_pos ⟨rfl, by rw [hd]; simp⟩]; rfl
theorem S_number {z : Int} {high : Nat} (h1 : -(high : Int) ≤ z) (h2 : z ≤ (high : Int)) (ts R : List Tok) (ht : Tk ts (rawOf (decZ z))) : (S (ts ++ R)).number 0 high = (z, S R) := by
 by_cases hz : z < 0
 ·
  rw [decZ_neg hz] at ht
  obtain ⟨p, u1, rfl, h3⟩ := Tk.cons ht
  obtain ⟨q, u2, rfl, h4⟩ := Tk.cons h3
  obtain rfl := Tk.nil h4
  unfold St.number
  have e : S ([([45], p), (decD z.natAbs, q)] ++ R) = S (([45], p) :: (decD z.natAbs, q) :: R) := rfl
  rw [e, S_look, if_pos rfl, S_adv, S_numeral _ _ _ _ _ (Nat.zero_le _) (by omega)]
  dsimp only
  congr 1; omega
 ·
  rw [decZ_nat (by omega), rawOf_dec] at ht
  obtain ⟨p, u1, rfl, h3⟩ := Tk.cons ht
  obtain rfl := Tk.nil h3
  unfold St.number
  have e : S ([(decD z.natAbs, p)] ++ R) = S ((decD z.natAbs, p) :: R) := rfl
  have hne : decD z.natAbs ≠ [45] := by
   obtain ⟨b, t, hd, hb⟩ := decD_dig z.natAbs
   rw [hd]; intro e; cases e; exact absurd hb (by decide)
  rw [e, S_look, if_neg hne, S_numeral _ _ _ _ _ (Nat.zero_le _) (by omega)]
  congr 1; omega
theorem parts_step {kd : Nat} {c : UInt8} {cs : Str} {m m' : Nd} {s s' : St} {v : Nd × St} (h1 : Ev (fun k => part k kd c m s) (m', s')) (h2 : Ev (fun k => parts k kd cs m' s') v) : Ev (fun k => parts k kd (c :: cs) m s) v := by
 refine Ev.succ ?_
 refine Ev.eq (g := fun k => parts k kd cs (part k kd c m s).1 (part k kd c m s).2) ?_ (fun k => by rw [parts])
 exact Ev.then (g := fun k (r : Nd × St) => parts k kd cs r.1 r.2) h1 h2
theorem part_ev {kd : Nat} {c : UInt8} {m m' : Nd} {s s' : St} (h : ∀ k, part (k + 1) kd c m s = (m', s')) : Ev (fun k => part k kd c m s) (m', s') := Ev.succ (Ev.of h)
theorem fin_kid (n : Nd) (c : UInt8) (cs : Str) (x : Nd) (l : List Nd) (m : Nd) (h : c ≠ 110 ∧ c ≠ 108 ∧ c ≠ 100 ∧ c ≠ 122) : fin n cs l (m.push x) = fin n (c :: cs) (x :: l) m := by
 obtain ⟨a1, a2, a3, a4⟩ := h
 have b1 : (110 : UInt8) ∈ c :: cs ↔ (110 : UInt8) ∈ cs := by simp [List.mem_cons, Ne.symm a1]
 have b2 : (108 : UInt8) ∈ c :: cs ↔ (108 : UInt8) ∈ cs := by simp [List.mem_cons, Ne.symm a2]
 have b3 : (100 : UInt8) ∈ c :: cs ↔ (100 : UInt8) ∈ cs := by simp [List.mem_cons, Ne.symm a3]
 have b4 : (122 : UInt8) ∈ c :: cs ↔ (122 : UInt8) ∈ cs := by simp [List.mem_cons, Ne.symm a4]
 unfold fin
 simp only [b1, b2, b3, b4]
 cases m
 simp [Nd.push, Nd.kind, Nd.text, Nd.num, Nd.kids]
theorem fin_all (n : Nd) (c : UInt8) (cs : Str) (l : List Nd) (m : Nd) (h : c ≠ 110 ∧ c ≠ 108 ∧ c ≠ 100 ∧ c ≠ 122) : fin n cs [] (pushes m l) = fin n (c :: cs) l m := by
 obtain ⟨a1, a2, a3, a4⟩ := h
 have b1 : (110 : UInt8) ∈ c :: cs ↔ (110 : UInt8) ∈ cs := by simp [List.mem_cons, Ne.symm a1]
 have b2 : (108 : UInt8) ∈ c :: cs ↔ (108 : UInt8) ∈ cs := by simp [List.mem_cons, Ne.symm a2]
 have b3 : (100 : UInt8) ∈ c :: cs ↔ (100 : UInt8) ∈ cs := by simp [List.mem_cons, Ne.symm a3]
 have b4 : (122 : UInt8) ∈ c :: cs ↔ (122 : UInt8) ∈ cs := by simp [List.mem_cons, Ne.symm a4]
 unfold fin
 simp only [b1, b2, b3, b4]
 cases m
 simp [pushes, Nd.kind, Nd.text, Nd.num, Nd.kids]
theorem fin_skip (n : Nd) (c : UInt8) (cs : Str) (l : List Nd) (m : Nd) (h : c ≠ 110 ∧ c ≠ 108 ∧ c ≠ 100 ∧ c ≠ 122) : fin n cs l m = fin n (c :: cs) l m := by
 obtain ⟨a1, a2, a3, a4⟩ := h
 have b1 : (110 : UInt8) ∈ c :: cs ↔ (110 : UInt8) ∈ cs := by simp [List.mem_cons, Ne.symm a1]
 have b2 : (108 : UInt8) ∈ c :: cs ↔ (108 : UInt8) ∈ cs := by simp [List.mem_cons, Ne.symm a2]
 have b3 : (100 : UInt8) ∈ c :: cs ↔ (100 : UInt8) ∈ cs := by simp [List.mem_cons, Ne.symm a3]
 have b4 : (122 : UInt8) ∈ c :: cs ↔ (122 : UInt8) ∈ cs := by simp [List.mem_cons, Ne.symm a4]
 unfold fin
 simp only [b1, b2, b3, b4]
theorem fin_text (n : Nd) (c : UInt8) (cs : Str) (l : List Nd) (m : Nd) (h : c = 110 ∨ c = 108) : fin n cs l (m.setText n.text) = fin n (c :: cs) l m := by
 have b1 : (110 : UInt8) ∈ c :: cs ∨ (108 : UInt8) ∈ c :: cs := by rcases h with rfl | rfl <;> simp
 have b3 : (100 : UInt8) ∈ c :: cs ↔ (100 : UInt8) ∈ cs := by rcases h with rfl | rfl <;> simp
 have b4 : (122 : UInt8) ∈ c :: cs ↔ (122 : UInt8) ∈ cs := by rcases h with rfl | rfl <;> simp
 unfold fin
 simp only [b3, b4]
 rw [if_pos b1]
 cases m
 simp [Nd.setText, Nd.kind, Nd.text, Nd.num, Nd.kids]
theorem fin_num (n : Nd) (c : UInt8) (cs : Str) (l : List Nd) (m : Nd) (h : c = 100 ∨ c = 122) : fin n cs l (m.setNum n.num) = fin n (c :: cs) l m := by
 have b1 : (100 : UInt8) ∈ c :: cs ∨ (122 : UInt8) ∈ c :: cs := by rcases h with rfl | rfl <;> simp
 have b3 : (110 : UInt8) ∈ c :: cs ↔ (110 : UInt8) ∈ cs := by rcases h with rfl | rfl <;> simp
 have b4 : (108 : UInt8) ∈ c :: cs ↔ (108 : UInt8) ∈ cs := by rcases h with rfl | rfl <;> simp
 unfold fin
 simp only [b3, b4]
 rw [if_pos b1]
 cases m
 simp [Nd.setNum, Nd.kind, Nd.text, Nd.num, Nd.kids]
theorem nextOk_tail {c : UInt8} {cs : Str} (h : nextOk (c :: cs) = true) : nextOk cs = true := by
 cases cs with
 | nil => rfl
 | cons e cs => rw [nextOk, Bool.and_eq_true] at h; exact h.2
theorem sign_first {f : Nd → List Str} {n : Nd} {c : UInt8} {cs : Str} {l : List Nd} (h : c = 59 ∨ c = 61 ∨ c = 125) : ∃ r, raw (partsT f n (c :: cs) l) = [c] :: r := by
 rw [partsT, raw_app]
 have e : (partT f n c l).2 = [[c]] := by
  unfold partT
  rcases h with rfl | rfl | rfl <;> rfl
 rw [e, raw_cons, rawOf_one]
 exact ⟨_, rfl⟩
theorem parts_any {d : Nat} {n : Nd} {kd : Nat} (hr : ∀ x, rt d x → Rdy d x) : ∀ (cs : Str) (l : List Nd) (m : Nd) (ts R : List Tok), nextOk cs = true → kidsOk (rt d) cs l →
  ((110 : UInt8) ∈ cs → nameOk n.text) → ((108 : UInt8) ∈ cs → wordOk n.text) → ((100 : UInt8) ∈ cs → ((shape kd).low : Int) ≤ n.num ∧ n.num ≤ ((shape kd).high : Int)) → ((122 : UInt8) ∈ cs → (shape kd).low = 0 ∧ -((shape kd).high : Int) ≤ n.num ∧ n.num ≤ ((shape kd).high : Int)) →
  ((79 : UInt8) ∈ cs → (S R).look ≠ wElse) → Tk ts (raw (partsT (tk d) n cs l)) → Ev (fun k => parts k kd cs m (S (ts ++ R))) (fin n cs l m, S R) := by
 intro cs
 induction cs with
 | nil =>
  intro l m ts R _ hk _ _ _ _ _ ht
  have hl : l = [] := hk
  subst hl
  obtain rfl := Tk.nil ht
  have e : fin n [] [] m = m := by unfold fin; cases m; simp [Nd.kind, Nd.text, Nd.num, Nd.kids]
  rw [e, List.nil_append]
  exact Ev.succ (Ev.of fun k => by rw [parts])
 | cons c cs ih =>
  intro l m ts R hn hk hN hL hD hZ hO ht
  have hn' := nextOk_tail hn
  have rec_ := fun l m t2 (hk' : kidsOk (rt d) cs l) (ht2 : Tk t2 (raw (partsT (tk d) n cs l))) => ih l m t2 R hn' hk' (fun h => hN (List.mem_cons_of_mem _ h)) (fun h => hL (List.mem_cons_of_mem _ h)) (fun h => hD (List.mem_cons_of_mem _ h)) (fun h => hZ (List.mem_cons_of_mem _ h)) (fun h => hO (List.mem_cons_of_mem _ h)) ht2
  rw [partsT, raw_app] at ht
  obtain ⟨t1, t2, rfl, ht1, ht2⟩ := Tk.app ht
  rw [List.append_assoc]
  by_cases c1 : c = 110
  ·
   subst c1
   rw [kidsOk, if_neg (by decide), if_neg (by decide), if_neg (by decide), if_neg (by decide), if_neg (by decide), if_neg (by decide), if_neg (by decide)] at hk
   have e : partT (tk d) n 110 l = (l, [n.text]) := by unfold partT; rw [if_pos rfl]
   rw [e] at ht1 ht2
   have hx := hN List.mem_cons_self
   rw [raw_cons, rawOf_word hx.2] at ht1
   obtain ⟨p, u, rfl, h0⟩ := Tk.cons ht1
   obtain rfl := Tk.nil h0
   rw [← fin_text n 110 cs l m (Or.inl rfl)]
   refine parts_step (part_ev fun k => ?_) (rec_ l (m.setText n.text) t2 hk ht2)
   rw [part, if_pos rfl, List.cons_append, S_name p _ hx.1]
   rfl
  by_cases c2 : c = 108
  ·
   subst c2
   rw [kidsOk, if_neg (by decide), if_neg (by decide), if_neg (by decide), if_neg (by decide), if_neg (by decide), if_neg (by decide), if_neg (by decide)] at hk
   have e : partT (tk d) n 108 l = (l, [36 :: n.text]) := by unfold partT; rw [if_neg (by decide), if_pos rfl]
   rw [e] at ht1 ht2
   have hx := hL List.mem_cons_self
   rw [raw_cons, rawOf_loc hx.2] at ht1
   obtain ⟨p, u, rfl, h0⟩ := Tk.cons ht1
   obtain rfl := Tk.nil h0
   rw [← fin_text n 108 cs l m (Or.inr rfl)]
   refine parts_step (part_ev fun k => ?_) (rec_ l (m.setText n.text) t2 hk ht2)
   rw [part, if_neg (by decide), if_pos rfl, List.cons_append, S_loc]
   rfl
  by_cases c3 : c = 100
  ·
   subst c3
   rw [kidsOk, if_neg (by decide), if_neg (by decide), if_neg (by decide), if_neg (by decide), if_neg (by decide), if_neg (by decide), if_neg (by decide)] at hk
   have e : partT (tk d) n 100 l = (l, [decZ n.num]) := by unfold partT; rw [if_neg (by decide), if_neg (by decide), if_pos (by decide)]
   rw [e] at ht1 ht2
   obtain ⟨hx1, hx2⟩ := hD List.mem_cons_self
   rw [raw_cons, decZ_nat (by omega), rawOf_dec] at ht1
   obtain ⟨p, u, rfl, h0⟩ := Tk.cons ht1
   obtain rfl := Tk.nil h0
   rw [← fin_num n 100 cs l m (Or.inl rfl)]
   refine parts_step (part_ev fun k => ?_) (rec_ l (m.setNum n.num) t2 hk ht2)
   rw [part, if_neg (by decide), if_neg (by decide), if_pos rfl, List.cons_append, S_numeral _ _ _ _ _ (by omega) (by omega)]
   dsimp only
   rw [show ((n.num.natAbs : Nat) : Int) = n.num by omega]
   rfl
  by_cases c4 : c = 122
  ·
   subst c4
   rw [kidsOk, if_neg (by decide), if_neg (by decide), if_neg (by decide), if_neg (by decide), if_neg (by decide), if_neg (by decide), if_neg (by decide)] at hk
   have e : partT (tk d) n 122 l = (l, [decZ n.num]) := by unfold partT; rw [if_neg (by decide), if_neg (by decide), if_pos (by decide)]
   rw [e] at ht1 ht2
   obtain ⟨hx0, hx1, hx2⟩ := hZ List.mem_cons_self
   rw [raw_cons] at ht1
   have ht1' : Tk t1 (rawOf (decZ n.num)) := by simpa [raw] using ht1
   rw [← fin_num n 122 cs l m (Or.inr rfl)]
   refine parts_step (part_ev fun k => ?_) (rec_ l (m.setNum n.num) t2 hk ht2)
   rw [part, if_neg (by decide), if_neg (by decide), if_neg (by decide), if_pos rfl, hx0, S_number hx1 hx2 t1 _ ht1']
  by_cases c5 : c = 69
  ·
   subst c5
   rw [kidsOk, if_pos rfl] at hk
   obtain ⟨x, l', rfl, hxe, hxr, hk'⟩ := hk
   have e : partT (tk d) n 69 (x :: l') = (l', tk d x) := by unfold partT; rw [if_neg (by decide), if_neg (by decide), if_neg (by decide), if_pos (by decide)]
   rw [e] at ht1 ht2
   rw [← fin_kid n 69 cs x l' m (by decide)]
   have hf : fol 1 (t2 ++ R) := by
    cases cs with
    | nil => exact absurd hn (by decide)
    | cons f cs =>
     rw [nextOk, Bool.and_eq_true, if_pos rfl, Bool.or_eq_true, decide_eq_true_iff, decide_eq_true_iff] at hn
     rcases hn.1 with rfl | rfl
     ·
      obtain ⟨r, hr'⟩ := sign_first (f := tk d) (n := n) (cs := cs) (l := l') (c := 59) (Or.inl rfl)
      rw [hr'] at ht2
      obtain ⟨p, u, rfl, _⟩ := Tk.cons ht2
      exact ⟨by rw [List.cons_append, S_look]; decide, by rw [List.cons_append, S_look]; decide⟩
     ·
      rw [kidsOk, if_neg (by decide), if_pos rfl] at hk'
      obtain ⟨y, l'', rfl, hy, hyr, _⟩ := hk'
      obtain ⟨r, hr'⟩ := block_first hyr hy
      have e2 : (partT (tk d) n 66 (y :: l'')).2 = tk d y := by unfold partT; rw [if_neg (by decide), if_neg (by decide), if_neg (by decide), if_pos (by decide)]
      rw [partsT, raw_app, e2, hr'] at ht2
      obtain ⟨p, u, rfl, _⟩ := Tk.cons ht2
      exact ⟨by rw [List.cons_append, S_look]; decide, by rw [List.cons_append, S_look]; decide⟩
   have hx := ((hr x hxr).exp hxe).one 1 t1 (t2 ++ R) (Nat.le_refl _) (by omega) (by rw [opd_one]; exact ht1) hf
   refine parts_step (Ev.succ (Ev.eq (g := fun k => (m.push (ops k 1 (S (t1 ++ (t2 ++ R)))).1, (ops k 1 (S (t1 ++ (t2 ++ R)))).2)) ?_ (fun k => by
    rw [part, if_neg (by decide), if_neg (by decide), if_neg (by decide), if_neg (by decide), if_pos rfl]))) (rec_ l' (m.push x) t2 hk' ht2)
   exact Ev.then (g := fun k (r : Nd × St) => (m.push r.1, r.2)) hx (Ev.of fun _ => rfl)
  by_cases c6 : c = 66
  ·
   subst c6
   rw [kidsOk, if_neg (by decide), if_pos rfl] at hk
   obtain ⟨x, l', rfl, hxk, hxr, hk'⟩ := hk
   have e : partT (tk d) n 66 (x :: l') = (l', tk d x) := by unfold partT; rw [if_neg (by decide), if_neg (by decide), if_neg (by decide), if_pos (by decide)]
   rw [e] at ht1 ht2
   rw [← fin_kid n 66 cs x l' m (by decide)]
   have hx := (hr x hxr).nod (sign_leaf (by omega)) (by omega) (by omega) t1 (t2 ++ R) ht1 (fun h => by omega)
   rw [show x.kind.toNat = 8 by rw [hxk]; rfl] at hx
   refine parts_step (Ev.succ (Ev.eq (g := fun k => (m.push (node k 8 (S (t1 ++ (t2 ++ R)))).1, (node k 8 (S (t1 ++ (t2 ++ R)))).2)) ?_ (fun k => by
    rw [part, if_neg (by decide), if_neg (by decide), if_neg (by decide), if_neg (by decide), if_neg (by decide), if_pos rfl]))) (rec_ l' (m.push x) t2 hk' ht2)
   exact Ev.then (g := fun k (r : Nd × St) => (m.push r.1, r.2)) hx (Ev.of fun _ => rfl)
  by_cases c7 : c = 76
  ·
   subst c7
   rw [kidsOk, if_neg (by decide), if_neg (by decide), if_pos rfl] at hk
   obtain ⟨x, l', rfl, hxk, hxr, hk'⟩ := hk
   have e : partT (tk d) n 76 (x :: l') = (l', tk d x) := by unfold partT; rw [if_neg (by decide), if_neg (by decide), if_neg (by decide), if_pos (by decide)]
   rw [e] at ht1 ht2
   rw [← fin_kid n 76 cs x l' m (by decide)]
   have hx := (hr x hxr).nod (sign_leaf (by omega)) (by omega) (by omega) t1 (t2 ++ R) ht1 (fun h => by omega)
   rw [show x.kind.toNat = 33 by rw [hxk]; rfl] at hx
   refine parts_step (Ev.succ (Ev.eq (g := fun k => (m.push (node k 33 (S (t1 ++ (t2 ++ R)))).1, (node k 33 (S (t1 ++ (t2 ++ R)))).2)) ?_ (fun k => by
    rw [part, if_neg (by decide), if_neg (by decide), if_neg (by decide), if_neg (by decide), if_neg (by decide), if_neg (by decide), if_pos rfl]))) (rec_ l' (m.push x) t2 hk' ht2)
   exact Ev.then (g := fun k (r : Nd × St) => (m.push r.1, r.2)) hx (Ev.of fun _ => rfl)
  by_cases c8 : c = 80
  ·
   subst c8
   rw [kidsOk, if_neg (by decide), if_neg (by decide), if_neg (by decide), if_pos rfl] at hk
   obtain ⟨x, l', rfl, hxk, hxr, hk'⟩ := hk
   have e : partT (tk d) n 80 (x :: l') = (l', tk d x) := by unfold partT; rw [if_neg (by decide), if_neg (by decide), if_neg (by decide), if_pos (by decide)]
   rw [e] at ht1 ht2
   rw [← fin_kid n 80 cs x l' m (by decide)]
   have hf : (S (t2 ++ R)).look ≠ [46] := by
    cases cs with
    | nil => exact absurd hn (by decide)
    | cons f cs =>
     rw [nextOk, Bool.and_eq_true, if_neg (by decide), if_pos rfl, decide_eq_true_iff] at hn
     obtain rfl := hn.1
     obtain ⟨r, hr'⟩ := sign_first (f := tk d) (n := n) (cs := cs) (l := l') (c := 61) (Or.inr (Or.inl rfl))
     rw [hr'] at ht2
     obtain ⟨p, u, rfl, _⟩ := Tk.cons ht2
     rw [List.cons_append, S_look]; decide
   have hx := place_any hxr hxk t1 (t2 ++ R) ht1 hf
   refine parts_step (part_ev fun k => ?_) (rec_ l' (m.push x) t2 hk' ht2)
   rw [part, if_neg (by decide), if_neg (by decide), if_neg (by decide), if_neg (by decide), if_neg (by decide), if_neg (by decide), if_neg (by decide), if_pos rfl, hx]
  by_cases c9 : c = 79
  ·
   subst c9
   rw [kidsOk, if_neg (by decide), if_neg (by decide), if_neg (by decide), if_neg (by decide), if_pos rfl] at hk
   have hnil : cs = [] := by
    cases cs with
    | nil => rfl
    | cons f cs => rw [nextOk, if_neg (by decide), if_neg (by decide), if_neg (by decide), if_pos rfl, Bool.false_and] at hn; cases hn
   subst hnil
   rcases hk with ⟨rfl, hk'⟩ | ⟨x, l', rfl, hxk, hxr, hk'⟩
   ·
    have e : partT (tk d) n 79 [] = ([], []) := by unfold partT; rw [if_neg (by decide), if_neg (by decide), if_neg (by decide), if_neg (by decide), if_pos rfl]
    rw [e] at ht1 ht2
    obtain rfl := Tk.nil ht1
    obtain rfl := Tk.nil ht2
    have hle := hO List.mem_cons_self
    rw [← fin_skip n 79 [] [] m (by decide)]
    refine parts_step (part_ev fun k => ?_) (rec_ [] m [] hk' ht2)
    rw [part, if_neg (by decide), if_neg (by decide), if_neg (by decide), if_neg (by decide), if_neg (by decide), if_neg (by decide), if_neg (by decide), if_neg (by decide), if_pos rfl]
    exact if_neg hle
   ·
    have e : partT (tk d) n 79 (x :: l') = (l', wElse :: tk d x) := by unfold partT; rw [if_neg (by decide), if_neg (by decide), if_neg (by decide), if_neg (by decide), if_pos rfl]
    rw [e] at ht1 ht2
    rw [raw_cons, show rawOf wElse = [wElse] by decide] at ht1
    obtain ⟨p, u, rfl, h0⟩ := Tk.cons ht1
    rw [← fin_kid n 79 [] x l' m (by decide)]
    have hx := (hr x hxr).nod (sign_leaf (by omega)) (by omega) (by omega) u (t2 ++ R) h0 (fun h => by omega)
    rw [show x.kind.toNat = 8 by rw [hxk]; rfl] at hx
    refine parts_step (Ev.succ (Ev.eq (g := fun k => (m.push (node k 8 (S (u ++ (t2 ++ R)))).1, (node k 8 (S (u ++ (t2 ++ R)))).2)) ?_ (fun k => by
     rw [part, if_neg (by decide), if_neg (by decide), if_neg (by decide), if_neg (by decide), if_neg (by decide), if_neg (by decide), if_neg (by decide), if_neg (by decide), if_pos rfl, List.cons_append, S_look, if_pos rfl, S_adv]))) (rec_ l' (m.push x) t2 hk' ht2)
    exact Ev.then (g := fun k (r : Nd × St) => (m.push r.1, r.2)) hx (Ev.of fun _ => rfl)
  by_cases c10 : c = 73
  ·
   subst c10
   rw [kidsOk, if_neg (by decide), if_neg (by decide), if_neg (by decide), if_neg (by decide), if_neg (by decide), if_pos rfl] at hk
   have e : partT (tk d) n 73 l = ([], l.flatMap (tk d)) := by unfold partT; rw [if_neg (by decide), if_neg (by decide), if_neg (by decide), if_neg (by decide), if_neg (by decide), if_pos (by decide)]
   rw [e] at ht1 ht2
   rw [← fin_all n 73 cs l m (by decide)]
   have hf : cls (S (t2 ++ R)).look ≠ 3 := by
    cases cs with
    | nil => exact absurd hn (by decide)
    | cons f cs =>
     rw [nextOk, Bool.and_eq_true, if_neg (by decide), if_neg (by decide), if_pos (by decide), decide_eq_true_iff] at hn
     obtain rfl := hn.1
     obtain ⟨r, hr'⟩ := sign_first (f := tk d) (n := n) (cs := cs) (l := []) (c := 125) (Or.inr (Or.inr rfl))
     rw [hr'] at ht2
     obtain ⟨p, u, rfl, _⟩ := Tk.cons ht2
     rw [List.cons_append, S_look]; decide
   refine parts_step (Ev.succ (Ev.eq (items_any hr l m t1 (t2 ++ R) hk.1 ht1 hf) (fun k => by
    rw [part, if_neg (by decide), if_neg (by decide), if_neg (by decide), if_neg (by decide), if_neg (by decide), if_neg (by decide), if_neg (by decide), if_neg (by decide), if_neg (by decide), if_pos rfl]))) (rec_ [] (pushes m l) t2 hk.2 ht2)
  by_cases c11 : c = 83
  ·
   subst c11
   rw [kidsOk, if_neg (by decide), if_neg (by decide), if_neg (by decide), if_neg (by decide), if_neg (by decide), if_neg (by decide), if_pos rfl] at hk
   have e : partT (tk d) n 83 l = ([], l.flatMap (tk d)) := by unfold partT; rw [if_neg (by decide), if_neg (by decide), if_neg (by decide), if_neg (by decide), if_neg (by decide), if_pos (by decide)]
   rw [e] at ht1 ht2
   rw [← fin_all n 83 cs l m (by decide)]
   have hf : (S (t2 ++ R)).stmtHere = -1 ∧ (S (t2 ++ R)).look ≠ wElse := by
    cases cs with
    | nil => exact absurd hn (by decide)
    | cons f cs =>
     rw [nextOk, Bool.and_eq_true, if_neg (by decide), if_neg (by decide), if_pos (by decide), decide_eq_true_iff] at hn
     obtain rfl := hn.1
     obtain ⟨r, hr'⟩ := sign_first (f := tk d) (n := n) (cs := cs) (l := []) (c := 125) (Or.inr (Or.inr rfl))
     rw [hr'] at ht2
     obtain ⟨p, u, rfl, _⟩ := Tk.cons ht2
     rw [List.cons_append, S_look]
     refine ⟨?_, by decide⟩
     unfold St.stmtHere St.kindHere
     rw [S_look]; decide
   refine parts_step (Ev.succ (Ev.eq (stmts_any hr l m t1 (t2 ++ R) hk.1 ht1 hf.1 hf.2) (fun k => by
    rw [part, if_neg (by decide), if_neg (by decide), if_neg (by decide), if_neg (by decide), if_neg (by decide), if_neg (by decide), if_neg (by decide), if_neg (by decide), if_neg (by decide), if_neg (by decide), if_pos rfl]))) (rec_ [] (pushes m l) t2 hk.2 ht2)
  ·
   rw [kidsOk, if_neg c5, if_neg c6, if_neg c7, if_neg c8, if_neg c9, if_neg c10, if_neg c11] at hk
   have e : partT (tk d) n c l = (l, [[c]]) := by
    unfold partT; rw [if_neg c1, if_neg c2, if_neg (by rintro (h | h); exact c3 h; exact c4 h), if_neg (by rintro (h | h | h | h); exact c5 h; exact c6 h; exact c7 h; exact c8 h), if_neg c9, if_neg (by rintro (h | h); exact c10 h; exact c11 h)]
   rw [e] at ht1 ht2
   rw [raw_cons, rawOf_one] at ht1
   obtain ⟨p, u, rfl, h0⟩ := Tk.cons ht1
   obtain rfl := Tk.nil h0
   rw [← fin_skip n c cs l m ⟨c1, c2, c3, c4⟩]
   refine parts_step (part_ev fun k => ?_) (rec_ l m t2 hk ht2)
   rw [part, if_neg c1, if_neg c2, if_neg c3, if_neg c4, if_neg c5, if_neg c6, if_neg c7, if_neg c8, if_neg c9, if_neg c10, if_neg c11, List.cons_append, S_expect]
   rfl
theorem shape_facts : ∀ k, k < 37 → ((122 : UInt8) ∈ (shape k).parts → (shape k).low = 0 ∧ (100 : UInt8) ∉ (shape k).parts) ∧ ((108 : UInt8) ∈ (shape k).parts → (110 : UInt8) ∉ (shape k).parts) ∧ ((79 : UInt8) ∈ (shape k).parts → k = 11) := by decide
theorem fin_back {x : Nd} {kd : Nat} (hk : x.kind = (kd : Int)) (p : Str) (h1 : ¬ ((110 : UInt8) ∈ p ∨ (108 : UInt8) ∈ p) → x.text = []) (h2 : ¬ ((100 : UInt8) ∈ p ∨ (122 : UInt8) ∈ p) → x.num = 0) : fin x p x.kids (.mk (kd : Int) [] 0 []) = x := by
 obtain ⟨k, t, z, l⟩ := x
 simp only [Nd.kind, Nd.text, Nd.num, Nd.kids] at *
 subst hk
 unfold fin
 simp only [Nd.kind, Nd.text, Nd.num, Nd.kids, List.nil_append]
 have e1 : (if (110 : UInt8) ∈ p ∨ (108 : UInt8) ∈ p then t else []) = t := by
  split
  ·
   rfl
  ·
   next h => exact (h1 h).symm
 have e2 : (if (100 : UInt8) ∈ p ∨ (122 : UInt8) ∈ p then z else 0) = z := by
  split
  ·
   rfl
  ·
   next h => exact (h2 h).symm
 rw [e1, e2]
theorem nod_leaf {d : Nat} {x : Nd} (hr : ∀ y, rt d y → Rdy d y) (h : rt (d + 1) x) (hn : ¬ (26 ≤ x.kind ∧ x.kind ≤ 31)) (h35 : x.kind ≠ 35) (ts R : List Tok) (ht : Tk ts (raw (tk (d + 1) x))) (hf : x.kind = 11 → (S R).look ≠ wElse) : Ev (fun k => node k x.kind.toNat (S (ts ++ R))) (x, S R) := by
 obtain ⟨h0, h37, htx, hz, hks⟩ := rt_leaf h hn
 rw [tk_leaf (sign_leaf hn), raw_app] at ht
 obtain ⟨kd, hkd⟩ : ∃ kd : Nat, x.kind = (kd : Int) := ⟨x.kind.toNat, by omega⟩
 have hkn : x.kind.toNat = kd := by rw [hkd]; simp
 rw [hkn] at htx hz hks ht ⊢
 obtain ⟨f1, f2, f3⟩ := shape_facts kd (by omega)
 unfold textOk at htx
 rw [if_neg h35] at htx
 unfold numOk at hz
 obtain ⟨t1, t2, rfl, ht1, ht2⟩ := Tk.app ht
 have hp := parts_any (n := x) (kd := kd) hr (shape kd).parts x.kids (.mk (kd : Int) [] 0 []) t2 R (shapes_next kd (by omega)) hks
  (fun h => by rw [if_pos h] at htx; exact htx)
  (fun h => by rw [if_neg (f2 h), if_pos h] at htx; exact htx)
  (fun h => by rw [if_pos h] at hz; exact hz)
  (fun h => by rw [if_neg (f1 h).2, if_pos h] at hz; exact ⟨(f1 h).1, hz⟩)
  (fun h => hf (by rw [hkd, f3 h]; rfl)) ht2
 rw [fin_back hkd _ (fun h => by rw [if_neg (fun a => h (Or.inl a)), if_neg (fun a => h (Or.inr a))] at htx; exact htx) (fun h => by rw [if_neg (fun a => h (Or.inl a)), if_neg (fun a => h (Or.inr a))] at hz; exact hz)] at hp
 refine Ev.succ (Ev.eq hp fun k => ?_)
 rw [node]
 congr 1
 unfold wordT at ht1
 by_cases hw : (shape kd).word = []
 ·
  rw [if_pos hw] at ht1
  obtain rfl := Tk.nil ht1
  rw [if_pos hw]; rfl
 ·
  rw [if_neg hw] at ht1
  rcases raw_word kd (by omega) with hq | hq
  ·
   rw [raw_cons, hq] at ht1
   obtain ⟨p, u, rfl, h0⟩ := Tk.cons ht1
   obtain rfl := Tk.nil h0
   rw [if_neg hw]
   exact S_expect _ _ _
  ·
   exact absurd hq hw
theorem lvl_leaf {x : Nd} (h : ¬ (26 ≤ x.kind ∧ x.kind ≤ 31)) : lvl x = 4 := by
 unfold lvl; rw [if_pos (sign_leaf h)]
theorem rdy_all : ∀ d x, rt d x → Rdy d x := by
 intro d
 induction d with
 | zero => intro x h; exact absurd h (by unfold rt; simp)
 | succ d ih =>
  intro x h
  by_cases hop : 26 ≤ x.kind ∧ x.kind ≤ 31
  ·
   have h' := h
   unfold rt at h'
   rw [if_pos hop] at h'
   obtain ⟨ht, hz, a, b, hk, ha, hb, hra, hrb⟩ := h'
   have hs : (signOf x.kind).1 ≠ 0 := by
    rcases (show x.kind = 26 ∨ x.kind = 27 ∨ x.kind = 28 ∨ x.kind = 29 ∨ x.kind = 30 ∨ x.kind = 31 by omega) with e | e | e | e | e | e <;> rw [e] <;> decide
   refine ⟨fun h0 => absurd h0 hs, fun _ => ?_⟩
   obtain ⟨k, t, z, l⟩ := x
   simp only [Nd.kind, Nd.text, Nd.num, Nd.kids] at *
   subst ht hz hk
   exact ex_op (lv := (signOf k).1) (sg := (signOf k).2) rfl hs ((ih a hra).exp ha) ((ih b hrb).exp hb)
  ·
   refine ⟨fun _ h34 h35 ts R ht hf => nod_leaf ih h hop h35 ts R ht hf, fun he => ?_⟩
   have hl := lvl_leaf hop
   refine ex_of (by omega) (by omega) ?_ (fun _ h3 => by omega)
   rw [hl]
   intro ts R ht hf
   obtain ⟨h0, h37, htx, hz, hks⟩ := rt_leaf h hop
   rcases (show x.kind = 32 ∨ x.kind = 33 ∨ (x.kind = 34 ∨ x.kind = 35) ∨ x.kind = 36 by unfold isExpr at he; omega) with e | e | e | e
   ·
    have hno := nod_leaf ih h hop (by omega) ts R ht (fun h => by omega)
    have hc : cls (S (ts ++ R)).look = 4 := by
     rw [tk_leaf (sign_leaf hop)] at ht
     rw [e] at ht hz
     have e1 : (shape (32 : Int).toNat).parts = [100] := by decide
     have e2 : wordT (32 : Int).toNat = [] := by decide
     rw [e1, e2, List.nil_append] at ht
     unfold numOk at hz
     rw [e1, if_pos (by decide)] at hz
     have e3 : partsT (tk d) x [100] x.kids = [decZ x.num] := by
      rw [partsT, partsT]; unfold partT; rw [if_neg (by decide), if_neg (by decide), if_pos (by decide)]; rfl
     have hz0 : (0 : Int) ≤ x.num := by have := hz.1; omega
     rw [e3, raw_cons, decZ_nat hz0, rawOf_dec] at ht
     obtain ⟨p, u, rfl, _⟩ := Tk.cons ht
     exact cls_dec _
    rw [show x.kind.toNat = 32 by rw [e]; rfl] at hno
    exact Ev.succ (Ev.eq hno fun k => by rw [ops, if_pos rfl, if_pos hc])
   ·
    have hno := nod_leaf ih h hop (by omega) ts R ht (fun h => by omega)
    have hc : cls (S (ts ++ R)).look = 5 := by
     rw [tk_leaf (sign_leaf hop)] at ht
     rw [e] at ht htx
     have e1 : (shape (33 : Int).toNat).parts = [108] := by decide
     have e2 : wordT (33 : Int).toNat = [] := by decide
     rw [e1, e2, List.nil_append] at ht
     unfold textOk at htx
     rw [e1, if_neg (by decide), if_neg (by decide), if_pos (by decide)] at htx
     have e3 : partsT (tk d) x [108] x.kids = [36 :: x.text] := by
      rw [partsT, partsT]; unfold partT; rw [if_neg (by decide), if_pos rfl]; rfl
     rw [e3, raw_cons, rawOf_loc htx.2] at ht
     obtain ⟨p, u, rfl, _⟩ := Tk.cons ht
     exact cls_loc _
    rw [show x.kind.toNat = 33 by rw [e]; rfl] at hno
    exact Ev.succ (Ev.eq hno fun k => by rw [ops, if_pos rfl, if_neg (by rw [hc]; decide), if_pos hc])
   ·
    have hpl := place_any h e ts R ht hf.2
    have hc : cls (S (ts ++ R)).look = 3 ∧ (S (ts ++ R)).look ≠ [40] := by
     have ht' := ht
     rw [tk_leaf (sign_leaf hop)] at ht'
     have f1 : (shape x.kind.toNat).parts = [110] ∧ wordT x.kind.toNat = [] := by
      rcases e with h | h <;> rw [h] <;> decide
     rw [f1.1, f1.2, List.nil_append] at ht'
     have e3 : partsT (tk d) x [110] x.kids = [x.text] := by
      rw [partsT, partsT]; unfold partT; rw [if_pos rfl]; rfl
     rw [e3] at ht'
     rw [f1.1] at htx
     have hname : ∃ a m, raw [x.text] = a :: m ∧ nameOk a := by
      unfold textOk at htx
      rcases e with h | h
      ·
       rw [if_neg (by omega), if_pos (by decide)] at htx
       exact ⟨x.text, [], by rw [raw_cons, rawOf_word htx.2]; rfl, htx⟩
      ·
       rw [if_pos h] at htx
       obtain ⟨a, b, hab, ha, hb⟩ := htx
       have hne : a ≠ [] := by intro e; rw [e] at ha; exact absurd ha.1 (by decide)
       exact ⟨a, [[46], b], by rw [hab, raw_cons, rawOf_field ha.2 hne]; rfl, ha⟩
     obtain ⟨a, m, hraw, ha⟩ := hname
     rw [hraw] at ht'
     obtain ⟨p, u, rfl, _⟩ := Tk.cons ht'
     rw [List.cons_append, S_look]
     exact ⟨ha.1, by intro e; rw [e] at ha; exact absurd ha.1 (by decide)⟩
    refine Ev.succ (Ev.of fun k => ?_)
    have hkh : (S (ts ++ R)).kindHere 36 36 ≠ 36 := by
     obtain ⟨b, u, hb, _, hw⟩ := cls_name hc.1
     unfold St.kindHere; rw [hw]; simp
    rw [ops, if_pos rfl, if_neg (by rw [hc.1]; decide), if_neg (by rw [hc.1]; decide), if_neg hc.2, if_neg hkh]
    exact hpl
   ·
    have hno := nod_leaf ih h hop (by omega) ts R ht (fun h => by omega)
    have hc : (S (ts ++ R)).look = wKind := by
     rw [tk_leaf (sign_leaf hop)] at ht
     rw [e] at ht
     have e1 : (shape (36 : Int).toNat).parts = [] := by decide
     have e2 : wordT (36 : Int).toNat = [wKind] := by decide
     rw [e1, e2, partsT] at ht
     have e3 : raw ([wKind] ++ []) = [wKind] := by decide
     rw [e3] at ht
     obtain ⟨p, u, rfl, _⟩ := Tk.cons ht
     rfl
    rw [show x.kind.toNat = 36 by rw [e]; rfl] at hno
    refine Ev.succ (Ev.eq hno fun k => ?_)
    have hkh : (S (ts ++ R)).kindHere 36 36 = 36 := by unfold St.kindHere; rw [hc]; decide
    rw [ops, if_pos rfl, if_neg (by rw [hc]; decide), if_neg (by rw [hc]; decide), if_neg (by rw [hc]; decide), if_pos hkh]
theorem def_read {d : Nat} {x : Nd} (h : rt d x) (hk : 0 ≤ x.kind ∧ x.kind ≤ 6) (ts : List Tok) (ht : Tk ts (raw (tk d x))) : Ev (fun k => rdDef k (S ts)) (x, S []) := by
 obtain ⟨e, rfl⟩ := rt_pos h
 have hno := (rdy_all _ x h).nod (sign_leaf (by omega)) (by omega) (by omega) ts [] ht (fun h => by omega)
 rw [List.append_nil] at hno
 have hkh : (S ts).kindHere 0 6 = x.kind := by
  rw [tk_leaf (sign_leaf (by omega)), raw_app] at ht
  obtain ⟨kd, hkd⟩ : ∃ kd : Nat, x.kind = (kd : Int) := ⟨x.kind.toNat, by omega⟩
  have hkn : x.kind.toNat = kd := by rw [hkd]; simp
  have hcase : ∀ k : Nat, k < 7 → raw (wordT k) = [(shape k).word] ∧ cls (shape k).word = 2 ∧ wordKind (shape k).word = some (k : Int) := by decide
  obtain ⟨g1, g2, g3⟩ := hcase kd (by omega)
  rw [hkn, g1] at ht
  obtain ⟨p, u, rfl, _⟩ := Tk.cons ht
  unfold St.kindHere
  rw [S_look, g3]
  dsimp only
  rw [if_pos ⟨g2, by omega, by omega⟩, hkd]
 refine Ev.eq hno fun k => ?_
 unfold rdDef
 rw [hkh, if_neg (by omega)]
/-! Writing. -/
def Al (a b : Wr) : Prop := (a.bad = true ∧ b.bad = true) ∨ a = b
theorem Al.refl (a : Wr) : Al a a := Or.inr rfl
theorem put_bad {w : Wr} (h : w.bad = true) (t : Str) : (w.put t).bad = true := by
 unfold Wr.put
 dsimp only
 generalize (if w.text ≠ [] ∧ w.text.getLast? ≠ some 40 ∧ t ≠ [41] ∧ t ≠ [59] then w.text ++ [32] else w.text) = x
 split
 ·
  rfl
 ·
  exact h
def puts (w : Wr) (l : List Str) : Wr := l.foldl Wr.put w
theorem puts_bad {w : Wr} (h : w.bad = true) (l : List Str) : (puts w l).bad = true := by
 induction l generalizing w with
 | nil => exact h
 | cons t l ih => exact ih (put_bad h t)
theorem puts_app (w : Wr) (a b : List Str) : puts w (a ++ b) = puts (puts w a) b := by unfold puts; rw [List.foldl_append]
theorem puts_cons (w : Wr) (t : Str) (l : List Str) : puts w (t :: l) = puts (w.put t) l := rfl
theorem Al.put {a b : Wr} (h : Al a b) (t : Str) : Al (a.put t) (b.put t) := by
 rcases h with ⟨h1, h2⟩ | rfl
 ·
  exact Or.inl ⟨put_bad h1 t, put_bad h2 t⟩
 ·
  exact Al.refl _
theorem Al.puts {a b : Wr} (h : Al a b) (l : List Str) : Al (Src.puts a l) (Src.puts b l) := by
 rcases h with ⟨h1, h2⟩ | rfl
 ·
  exact Or.inl ⟨puts_bad h1 l, puts_bad h2 l⟩
 ·
  exact Al.refl _
theorem Al.trans {a b c : Wr} (h : Al a b) (h2 : Al b c) : Al a c := by
 rcases h with ⟨a1, a2⟩ | rfl
 ·
  rcases h2 with ⟨b1, b2⟩ | rfl
  ·
   exact Or.inl ⟨a1, b2⟩
  ·
   exact Or.inl ⟨a1, a2⟩
 ·
  exact h2
def Writes (f : Wr → Wr) (l : List Str) : Prop := (∀ w, Al (f w) (puts w l)) ∧ ∀ w, w.bad = true → (f w).bad = true
theorem Writes.al {f : Wr → Wr} {l : List Str} (h : Writes f l) {a b : Wr} (hab : Al a b) : Al (f a) (puts b l) := by
 rcases hab with ⟨h1, h2⟩ | rfl
 ·
  exact Or.inl ⟨h.2 a h1, puts_bad h2 l⟩
 ·
  exact h.1 _
theorem Writes.comp {f g : Wr → Wr} {l m : List Str} (h : Writes f l) (h2 : Writes g m) : Writes (fun w => g (f w)) (l ++ m) :=
 ⟨fun w => by rw [puts_app]; exact h2.al (h.1 w), fun w hw => h2.2 _ (h.2 _ hw)⟩
theorem writes_put (t : Str) : Writes (fun w => w.put t) [t] := ⟨fun w => Al.refl _, fun w hw => put_bad hw t⟩
theorem writes_id : Writes (fun w => w) [] := ⟨fun w => Al.refl _, fun w hw => hw⟩
theorem writes_kids {f : Nd → Wr → Wr} {g : Nd → List Str} : ∀ l : List Nd, (∀ x ∈ l, Writes (f x) (g x)) → Writes (wKids f l) (l.flatMap g) := by
 intro l
 induction l with
 | nil => intro _; exact writes_id
 | cons x l ih =>
  intro h
  have hx := h x List.mem_cons_self
  have hl := ih (fun y hy => h y (List.mem_cons_of_mem _ hy))
  rw [List.flatMap_cons]
  refine ⟨fun w => ?_, fun w hw => by rw [wKids, if_pos hw]; exact hw⟩
  rw [wKids]
  by_cases hw : w.bad = true
  ·
   rw [if_pos hw]; exact Or.inl ⟨hw, puts_bad hw _⟩
  ·
   rw [if_neg hw, puts_app]; exact hl.al (hx.1 w)
theorem writes_parts {d : Nat} {n : Nd} (hr : ∀ x, rt d x → Writes (wNode d x) (tk d x)) : ∀ (cs : Str) (l : List Nd), kidsOk (rt d) cs l → Writes (fun w => wParts (wNode d) n cs l w) (partsT (tk d) n cs l) := by
 intro cs
 induction cs with
 | nil => intro l _; exact writes_id
 | cons c cs ih =>
  intro l hk
  have step : ∀ (l' : List Nd) (f : Wr → Wr) (t : List Str), (∀ w, wPart (wNode d) n c l w = (l', f w)) → partT (tk d) n c l = (l', t) → Writes f t → kidsOk (rt d) cs l' → Writes (fun w => wParts (wNode d) n (c :: cs) l w) (partsT (tk d) n (c :: cs) l) := by
   intro l' f t h1 h2 h3 h4
   have e : (fun w => wParts (wNode d) n (c :: cs) l w) = fun w => wParts (wNode d) n cs l' (f w) := by
    funext w; rw [wParts, h1]
   rw [e, partsT, h2]
   exact h3.comp (ih l' h4)
  by_cases c1 : c = 110
  ·
   subst c1
   rw [kidsOk, if_neg (by decide), if_neg (by decide), if_neg (by decide), if_neg (by decide), if_neg (by decide), if_neg (by decide), if_neg (by decide)] at hk
   exact step l _ _ (fun w => by unfold wPart; rw [if_pos rfl]) (by unfold partT; rw [if_pos rfl]) (writes_put _) hk
  by_cases c2 : c = 108
  ·
   subst c2
   rw [kidsOk, if_neg (by decide), if_neg (by decide), if_neg (by decide), if_neg (by decide), if_neg (by decide), if_neg (by decide), if_neg (by decide)] at hk
   exact step l _ _ (fun w => by unfold wPart; rw [if_neg (by decide), if_pos rfl]) (by unfold partT; rw [if_neg (by decide), if_pos rfl]) (writes_put _) hk
  by_cases c3 : c = 100 ∨ c = 122
  ·
   rw [kidsOk, if_neg (by rintro rfl; rcases c3 with h | h <;> cases h), if_neg (by rintro rfl; rcases c3 with h | h <;> cases h), if_neg (by rintro rfl; rcases c3 with h | h <;> cases h), if_neg (by rintro rfl; rcases c3 with h | h <;> cases h), if_neg (by rintro rfl; rcases c3 with h | h <;> cases h), if_neg (by rintro rfl; rcases c3 with h | h <;> cases h), if_neg (by rintro rfl; rcases c3 with h | h <;> cases h)] at hk
   exact step l _ _ (fun w => by unfold wPart; rw [if_neg c1, if_neg c2, if_pos c3]) (by unfold partT; rw [if_neg c1, if_neg c2, if_pos c3]) (writes_put _) hk
  have c3a : c ≠ 100 := fun h => c3 (Or.inl h)
  have c3b : c ≠ 122 := fun h => c3 (Or.inr h)
  have kid : ∀ x l', l = x :: l' → (c = 69 ∨ c = 66 ∨ c = 76 ∨ c = 80) → rt d x → kidsOk (rt d) cs l' → Writes (fun w => wParts (wNode d) n (c :: cs) l w) (partsT (tk d) n (c :: cs) l) := by
   intro x l' e hc hx hk'
   subst e
   exact step l' (wNode d x) (tk d x) (fun w => by unfold wPart; rw [if_neg c1, if_neg c2, if_neg c3, if_pos hc]) (by unfold partT; rw [if_neg c1, if_neg c2, if_neg c3, if_pos hc]) (hr x hx) hk'
  by_cases c5 : c = 69
  ·
   rw [kidsOk, if_pos c5] at hk
   obtain ⟨x, l', e, _, hx, hk'⟩ := hk
   exact kid x l' e (Or.inl c5) hx hk'
  by_cases c6 : c = 66
  ·
   rw [kidsOk, if_neg c5, if_pos c6] at hk
   obtain ⟨x, l', e, _, hx, hk'⟩ := hk
   exact kid x l' e (Or.inr (Or.inl c6)) hx hk'
  by_cases c7 : c = 76
  ·
   rw [kidsOk, if_neg c5, if_neg c6, if_pos c7] at hk
   obtain ⟨x, l', e, _, hx, hk'⟩ := hk
   exact kid x l' e (Or.inr (Or.inr (Or.inl c7))) hx hk'
  by_cases c8 : c = 80
  ·
   rw [kidsOk, if_neg c5, if_neg c6, if_neg c7, if_pos c8] at hk
   obtain ⟨x, l', e, _, hx, hk'⟩ := hk
   exact kid x l' e (Or.inr (Or.inr (Or.inr c8))) hx hk'
  have cn : ¬ (c = 69 ∨ c = 66 ∨ c = 76 ∨ c = 80) := by rintro (h | h | h | h); exact c5 h; exact c6 h; exact c7 h; exact c8 h
  by_cases c9 : c = 79
  ·
   rw [kidsOk, if_neg c5, if_neg c6, if_neg c7, if_neg c8, if_pos c9] at hk
   rcases hk with ⟨rfl, hk'⟩ | ⟨x, l', rfl, _, hx, hk'⟩
   ·
    exact step [] _ _ (fun w => by unfold wPart; rw [if_neg c1, if_neg c2, if_neg c3, if_neg cn, if_pos c9]) (by unfold partT; rw [if_neg c1, if_neg c2, if_neg c3, if_neg cn, if_pos c9]) writes_id hk'
   ·
    exact step l' (fun w => wNode d x (w.put wElse)) (wElse :: tk d x) (fun w => by unfold wPart; rw [if_neg c1, if_neg c2, if_neg c3, if_neg cn, if_pos c9]) (by unfold partT; rw [if_neg c1, if_neg c2, if_neg c3, if_neg cn, if_pos c9]) ((writes_put wElse).comp (hr x hx)) hk'
  by_cases c10 : c = 73
  ·
   rw [kidsOk, if_neg c5, if_neg c6, if_neg c7, if_neg c8, if_neg c9, if_pos c10] at hk
   exact step [] _ _ (fun w => by unfold wPart; rw [if_neg c1, if_neg c2, if_neg c3, if_neg cn, if_neg c9, if_pos (Or.inl c10)]) (by unfold partT; rw [if_neg c1, if_neg c2, if_neg c3, if_neg cn, if_neg c9, if_pos (Or.inl c10)]) (writes_kids l fun x hx => hr x (hk.1 x hx).2) hk.2
  by_cases c11 : c = 83
  ·
   rw [kidsOk, if_neg c5, if_neg c6, if_neg c7, if_neg c8, if_neg c9, if_neg c10, if_pos c11] at hk
   exact step [] _ _ (fun w => by unfold wPart; rw [if_neg c1, if_neg c2, if_neg c3, if_neg cn, if_neg c9, if_pos (Or.inr c11)]) (by unfold partT; rw [if_neg c1, if_neg c2, if_neg c3, if_neg cn, if_neg c9, if_pos (Or.inr c11)]) (writes_kids l fun x hx => hr x (hk.1 x hx).2.2) hk.2
  ·
   rw [kidsOk, if_neg c5, if_neg c6, if_neg c7, if_neg c8, if_neg c9, if_neg c10, if_neg c11] at hk
   have cm : ¬ (c = 73 ∨ c = 83) := by rintro (h | h); exact c10 h; exact c11 h
   exact step l _ _ (fun w => by unfold wPart; rw [if_neg c1, if_neg c2, if_neg c3, if_neg cn, if_neg c9, if_neg cm]) (by unfold partT; rw [if_neg c1, if_neg c2, if_neg c3, if_neg cn, if_neg c9, if_neg cm]) (writes_put _) hk
theorem writes_opd {d : Nat} {x : Nd} (h : Writes (wNode d x) (tk d x)) (least : Nat) (hl : least ≤ 4) : Writes (wOperand (wNode d) x least) (opd (tk d) least x) := by
 unfold opd
 by_cases hle : least ≤ lvl x
 ·
  rw [if_pos hle]
  have e : wOperand (wNode d) x least = wNode d x := by
   funext w; unfold wOperand
   rw [if_pos]
   unfold lvl at hle
   by_cases h0 : (signOf x.kind).1 = 0
   ·
    exact Or.inl h0
   ·
    rw [if_neg h0] at hle; exact Or.inr hle
  rw [e]; exact h
 ·
  rw [if_neg hle]
  have e : wOperand (wNode d) x least = fun w => ((wNode d x) (w.put [40])).put [41] := by
   funext w; unfold wOperand
   rw [if_neg]
   unfold lvl at hle
   by_cases h0 : (signOf x.kind).1 = 0
   ·
    rw [if_pos h0] at hle; omega
   ·
    rw [if_neg h0] at hle; rintro (h | h)
    ·
     exact h0 h
    ·
     exact hle h
  rw [e]
  exact ((writes_put [40]).comp h).comp (writes_put [41])
theorem writes_all : ∀ d x, rt d x → Writes (wNode d x) (tk d x) := by
 intro d
 induction d with
 | zero => intro x h; exact absurd h (by unfold rt; simp)
 | succ d ih =>
  intro x h
  have hkr : 0 ≤ x.kind ∧ x.kind < 37 := by
   by_cases hop : 26 ≤ x.kind ∧ x.kind ≤ 31
   ·
    omega
   ·
    have := rt_leaf h hop; exact ⟨this.1, this.2.1⟩
  refine ⟨fun w => ?_, fun w hw => ?_⟩
  ·
   by_cases hw : w.bad = true
   ·
    rw [wNode, if_neg (by omega), if_pos hw]; exact Or.inl ⟨hw, puts_bad hw _⟩
   ·
    by_cases hop : 26 ≤ x.kind ∧ x.kind ≤ 31
    ·
     have h' := h
     unfold rt at h'
     rw [if_pos hop] at h'
     obtain ⟨_, _, a, b, hk, ha, hb, hra, hrb⟩ := h'
     have hs : (signOf x.kind).1 ≠ 0 ∧ (signOf x.kind).1 ≤ 3 := by
      rcases (show x.kind = 26 ∨ x.kind = 27 ∨ x.kind = 28 ∨ x.kind = 29 ∨ x.kind = 30 ∨ x.kind = 31 by omega) with e | e | e | e | e | e <;> rw [e] <;> decide
     have e2 : tk (d + 1) x = (opd (tk d) (if (signOf x.kind).1 = 1 then 2 else (signOf x.kind).1) a ++ [(signOf x.kind).2]) ++ opd (tk d) ((signOf x.kind).1 + 1) b := by
      rw [tk, if_pos hs.1, hk]; simp
     rw [wNode, if_neg (by omega), if_neg hw, if_pos hs.1, hk, e2]
     exact (((writes_opd (ih a hra) _ (by split <;> omega)).comp (writes_put _)).comp (writes_opd (ih b hrb) _ (by omega))).1 w
    ·
     obtain ⟨h0, h37, htx, hz, hks⟩ := rt_leaf h hop
     have hp := writes_parts (n := x) ih (shape x.kind.toNat).parts x.kids hks
     rw [wNode, if_neg (by omega), if_neg hw, if_neg (by rw [sign_leaf hop]; simp), tk_leaf (sign_leaf hop)]
     unfold wordT
     by_cases hwd : (shape x.kind.toNat).word = []
     ·
      rw [if_pos hwd, if_pos hwd, List.nil_append]; exact hp.1 w
     ·
      rw [if_neg hwd, if_neg hwd]; exact ((writes_put _).comp hp).1 w
  ·
   rw [wNode, if_neg (by omega), if_pos hw]; exact hw
/-! The text that is written, and its tokens. -/
def sep (x t : Str) : Str := if x ≠ [] ∧ x.getLast? ≠ some 40 ∧ t ≠ [41] ∧ t ≠ [59] then x ++ [32] else x
def spt (x : Str) : List Str → Str
 | [] => x
 | t :: l => spt (sep x t ++ t) l
theorem sep_len (x t : Str) : x.length ≤ (sep x t).length := by unfold sep; split <;> simp
theorem spt_len : ∀ (l : List Str) (x : Str), x.length ≤ (spt x l).length
 | [], x => Nat.le_refl _
 | t :: l, x => by
  have h1 := spt_len l (sep x t ++ t)
  have h2 := sep_len x t
  rw [spt]; rw [List.length_append] at h1; omega
theorem puts_text : ∀ (l : List Str) (x : Str) (b : Bool), x.length ≤ 1024 → ((spt x l).length ≤ 1024 → puts ⟨x, b⟩ l = ⟨spt x l, b⟩) ∧ (1024 < (spt x l).length → (puts ⟨x, b⟩ l).bad = true)
 | [], x, b, hx => ⟨fun _ => rfl, fun h => by rw [spt] at h; omega⟩
 | t :: l, x, b, hx => by
  have e : Wr.put ⟨x, b⟩ t = if 1024 < (sep x t).length + t.length then ⟨sep x t, true⟩ else ⟨sep x t ++ t, b⟩ := rfl
  rw [puts_cons, e, spt]
  have hl := spt_len l (sep x t ++ t)
  rw [List.length_append] at hl
  by_cases h : 1024 < (sep x t).length + t.length
  ·
   rw [if_pos h]
   exact ⟨fun h2 => by omega, fun _ => puts_bad rfl l⟩
  ·
   rw [if_neg h]
   exact puts_text l (sep x t ++ t) b (by rw [List.length_append]; omega)
theorem lex_fuel : ∀ (k : Nat) (l : Str) (i : Nat), l.length ≤ k → lex k l i = lex l.length l i := by
 intro k
 induction k using Nat.strongRecOn with
 | ind k ih =>
  intro l i hl
  cases l with
  | nil => cases k with
   | zero => rfl
   | succ k => rw [lex, List.length_nil, lex]
  | cons b t =>
   obtain ⟨j, rfl⟩ : ∃ j, k = j + 1 := ⟨k - 1, by rw [List.length_cons] at hl; omega⟩
   rw [List.length_cons] at hl ⊢
   rw [lex, lex]
   by_cases hb : isBlank b = true
   ·
    rw [if_pos hb, if_pos hb, ih j (by omega) t _ (by omega)]
   ·
    rw [if_neg hb, if_neg hb]
    by_cases h0 : tokLen (b :: t) = 0
    ·
     rw [if_pos h0, if_pos h0]
    ·
     rw [if_neg h0, if_neg h0]
     have hd : ((b :: t).drop (tokLen (b :: t))).length ≤ t.length := by rw [List.length_drop, List.length_cons]; omega
     rw [ih j (by omega) _ _ (by omega)]
     by_cases hjt : t.length = j
     ·
      subst hjt; rw [ih t.length (by omega) _ _ hd]
     ·
      rw [ih t.length (by omega) _ _ hd]
def LX (l : Str) (i : Nat) : List Tok × Nat := lex l.length l i
theorem LX_nil (i : Nat) : LX [] i = ([], i) := rfl
theorem LX_blank {b : UInt8} (t : Str) (i : Nat) (h : isBlank b = true) : LX (b :: t) i = LX t (i + 1) := by
 unfold LX; rw [List.length_cons, lex, if_pos h]
theorem LX_tok {t s : Str} (i : Nat) (h0 : t ≠ []) (hb : ∀ b, t.head? = some b → isBlank b = false) (hl : tokLen (t ++ s) = t.length) : LX (t ++ s) i = ((t, i) :: (LX s (i + t.length)).1, (LX s (i + t.length)).2) := by
 obtain ⟨b, u, rfl⟩ : ∃ b u, t = b :: u := by cases t with | nil => exact absurd rfl h0 | cons b u => exact ⟨b, u, rfl⟩
 have hb' := hb b rfl
 have e : (b :: u ++ s) = b :: (u ++ s) := rfl
 unfold LX
 rw [e] at hl ⊢
 rw [List.length_cons, lex, if_neg (by rw [hb']; simp), if_neg (by rw [hl]; simp), hl]
 have e1 : (b :: (u ++ s)).take (b :: u).length = b :: u := by rw [← e]; simp
 have e2 : (b :: (u ++ s)).drop (b :: u).length = s := by rw [← e]; simp
 rw [e1, e2, lex_fuel (u ++ s).length s _ (by simp)]
def ns (s : Str) : Prop := ∀ b, s.head? = some b → isW b = false
def stop (s : Str) : Prop := ∀ b, s.head? = some b → b = 32 ∨ b = 41 ∨ b = 59
theorem stop_ns {s : Str} (h : stop s) : ns s := fun b hb => by rcases h b hb with rfl | rfl | rfl <;> decide
theorem take_w {p : UInt8 → Bool} {u s : Str} (hu : ∀ x ∈ u, p x = true) (hs : ∀ b, s.head? = some b → p b = false) : (u ++ s).takeWhile p = u := by
 rw [List.takeWhile_append_of_pos hu]
 cases s with
 | nil => simp
 | cons b t => rw [List.takeWhile_cons, if_neg (by rw [hs b rfl]; simp)]; simp
theorem word_len {w : Str} (hw : wordLen w = w.length) (h0 : w ≠ []) {s : Str} (hs : ns s) : wordLen (w ++ s) = w.length ∧ ∃ b u, w = b :: u ∧ isL b = true := by
 obtain ⟨b, u, rfl⟩ : ∃ b u, w = b :: u := by cases w with | nil => exact absurd rfl h0 | cons b u => exact ⟨b, u, rfl⟩
 have hall := word_all hw
 rw [wordLen] at hw
 by_cases hc : isL b = true ∧ (u.takeWhile isW).length + 1 ≤ 16
 ·
  rw [if_pos hc, List.length_cons] at hw
  have e : (b :: u ++ s) = b :: (u ++ s) := rfl
  rw [e, wordLen, take_w (fun x hx => hall x (List.mem_cons_of_mem _ hx)) hs]
  refine ⟨?_, b, u, rfl, hc.1⟩
  rw [if_pos ⟨hc.1, by have := hc.2; omega⟩, List.length_cons]
 ·
  rw [if_neg hc] at hw; simp at hw
theorem isL_blank {b : UInt8} (h : isL b = true) : isBlank b = false := by
 have := of_decide_eq_true h
 unfold isBlank
 refine decide_eq_false ?_
 rintro (rfl | rfl) <;> exact absurd this (by decide)
theorem isD_blank {b : UInt8} (h : isD b = true) : isBlank b = false := by
 have := of_decide_eq_true h
 unfold isBlank
 refine decide_eq_false ?_
 rintro (rfl | rfl) <;> exact absurd this (by decide)
def Lx (t : Str) (r : List Str) : Prop := ∀ s, (stop s ∨ t = [40]) → ∀ i, ∃ ts, Tk ts r ∧ LX (t ++ s) i = (ts ++ (LX s (i + t.length)).1, (LX s (i + t.length)).2)
theorem LX_word {w s : Str} (hw : wordLen w = w.length) (h0 : w ≠ []) (hs : ns s) (i : Nat) : LX (w ++ s) i = ((w, i) :: (LX s (i + w.length)).1, (LX s (i + w.length)).2) := by
 obtain ⟨hl, b, u, rfl, hb⟩ := word_len hw h0 hs
 refine LX_tok i h0 (fun c hc => by obtain rfl := Option.some.inj hc; exact isL_blank hb) ?_
 rw [← hl]
 show tokLen (b :: (u ++ s)) = wordLen (b :: (u ++ s))
 rw [tokLen, if_pos hb]
theorem lx_word {w : Str} (hw : wordLen w = w.length) (h0 : w ≠ []) : Lx w [w] := fun s hs i => by
 have hst : stop s := by
  rcases hs with h | h
  ·
   exact h
  ·
   subst h; exact absurd hw (by decide)
 exact ⟨[(w, i)], rfl, LX_word hw h0 (stop_ns hst) i⟩
theorem lx_loc {w : Str} (hw : wordLen w = w.length) (h0 : w ≠ []) : Lx (36 :: w) [36 :: w] := fun s hs i => by
 have hst : stop s := by
  rcases hs with h | h
  ·
   exact h
  ·
   cases h
 obtain ⟨hl, b, u, rfl, hb⟩ := word_len hw h0 (stop_ns hst)
 refine ⟨[(36 :: b :: u, i)], rfl, LX_tok i (by simp) (fun c hc => by obtain rfl := Option.some.inj hc; decide) ?_⟩
 show tokLen (36 :: (b :: u ++ s)) = _
 rw [tokLen, if_neg (by decide), if_neg (by decide), if_pos rfl, hl, if_neg (by simp)]
 rfl
theorem lx_field {a b : Str} (ha : wordLen a = a.length) (ha0 : a ≠ []) (hb : wordLen b = b.length) (hb0 : b ≠ []) : Lx (a ++ 46 :: b) [a, [46], b] := fun s hs i => by
 have hst : stop s := by
  rcases hs with h | h
  ·
   exact h
  ·
   have := congrArg List.length h; rw [List.length_append, List.length_cons] at this
   have h1 := List.length_pos_iff.2 ha0; have h2 := List.length_pos_iff.2 hb0; simp at this; omega
 have e : (a ++ 46 :: b) ++ s = a ++ ([46] ++ (b ++ s)) := by simp
 rw [e, LX_word ha ha0 (fun c hc => by obtain rfl := Option.some.inj hc; decide)]
 rw [LX_tok (t := [46]) (i + a.length) (by simp) (fun c hc => by obtain rfl := Option.some.inj hc; decide) (by
  show tokLen (46 :: (b ++ s)) = 1
  rw [tokLen, if_neg (by decide), if_neg (by decide), if_neg (by decide), if_neg (by decide), if_pos (by decide)])]
 rw [LX_word hb hb0 (stop_ns hst)]
 refine ⟨[(a, i), ([46], i + a.length), (b, i + a.length + ([46] : Str).length)], rfl, ?_⟩
 have el : i + a.length + ([46] : Str).length + b.length = i + (a ++ 46 :: b).length := by simp; omega
 rw [el]; rfl
theorem decD_len (n : Nat) (h : n ≤ 999) : (decD n).length ≤ 3 := by
 rw [decD]; split
 ·
  simp
 ·
  rw [decD]; split
  ·
   simp
  ·
   rw [decD]; split
   ·
    simp
   ·
    omega
theorem LX_dec {n : Nat} (h : n ≤ 999) {s : Str} (hs : stop s) (i : Nat) : LX (decD n ++ s) i = ((decD n, i) :: (LX s (i + (decD n).length)).1, (LX s (i + (decD n).length)).2) := by
 obtain ⟨b, u, hd, hb⟩ := decD_dig n
 have hl := decD_len n h
 have hall := decD_all n
 refine LX_tok i (by rw [hd]; simp) (fun c hc => by rw [hd] at hc; obtain rfl := Option.some.inj hc; exact isD_blank hb) ?_
 have e : decD n ++ s = b :: (u ++ s) := by rw [hd]; rfl
 have e2 : tokLen (decD n ++ s) = numLen (decD n ++ s) := by
  rw [e, tokLen, if_neg (by rw [isD_L hb]; simp), if_pos hb]
 rw [e2]
 unfold numLen
 rw [take_w (fun x hx => List.all_eq_true.1 hall x hx) (fun c hc => by rcases hs c hc with rfl | rfl | rfl <;> decide), if_pos hl]
theorem lx_dec {z : Int} (h1 : -999 ≤ z) (h2 : z ≤ 999) : Lx (decZ z) (rawOf (decZ z)) := fun s hs i => by
 obtain ⟨b, u, hd, hb⟩ := decD_dig z.natAbs
 by_cases hz : z < 0
 ·
  have e : decZ z = 45 :: decD z.natAbs := by unfold decZ; rw [if_pos hz]
  have hst : stop s := by
   rcases hs with h | h
   ·
    exact h
   ·
    rw [e] at h; cases h
  rw [decZ_neg hz, e]
  have e3 : (45 :: decD z.natAbs) ++ s = [45] ++ (decD z.natAbs ++ s) := rfl
  rw [e3, LX_tok (t := [45]) i (by simp) (fun c hc => by obtain rfl := Option.some.inj hc; decide) (by
   show tokLen (45 :: (decD z.natAbs ++ s)) = 1
   rw [tokLen, if_neg (by decide), if_neg (by decide), if_neg (by decide), if_neg (by decide), if_pos (by decide)])]
  rw [LX_dec (by omega) hst]
  refine ⟨[([45], i), (decD z.natAbs, i + ([45] : Str).length)], rfl, ?_⟩
  have el : i + ([45] : Str).length + (decD z.natAbs).length = i + (45 :: decD z.natAbs).length := by simp; omega
  rw [el]; rfl
 ·
  have e : decZ z = decD z.natAbs := decZ_nat (by omega)
  have hst : stop s := by
   rcases hs with h | h
   ·
    exact h
   ·
    rw [e, hd] at h; cases h; exact absurd hb (by decide)
  rw [e, rawOf_dec]
  exact ⟨[(decD z.natAbs, i)], rfl, LX_dec (by omega) hst i⟩
theorem lx_sign {t : Str} (h : t ∈ [[40], [41], [123], [125], [43], [45], [42], [59], [61], [60], [60, 61], [61, 61]]) : Lx t [t] := fun s hs i => by
 refine ⟨[(t, i)], rfl, ?_⟩
 have hh : t = [40] ∨ stop s := hs.symm
 have hs61 : stop s → s.head? ≠ some 61 := fun h e => by rcases h 61 e with h | h | h <;> cases h
 simp only [List.mem_cons, List.not_mem_nil, or_false] at h
 rcases h with rfl | rfl | rfl | rfl | rfl | rfl | rfl | rfl | rfl | rfl | rfl | rfl
 all_goals refine LX_tok i (by simp) (fun c hc => by obtain rfl := Option.some.inj hc; decide) ?_
 all_goals simp only [List.cons_append, List.nil_append]
 all_goals rw [tokLen, if_neg (by decide), if_neg (by decide), if_neg (by decide)]
 case _ => rw [if_neg (by decide), if_pos (by decide)]; rfl
 case _ => rw [if_neg (by decide), if_pos (by decide)]; rfl
 case _ => rw [if_neg (by decide), if_pos (by decide)]; rfl
 case _ => rw [if_neg (by decide), if_pos (by decide)]; rfl
 case _ => rw [if_neg (by decide), if_pos (by decide)]; rfl
 case _ => rw [if_neg (by decide), if_pos (by decide)]; rfl
 case _ => rw [if_neg (by decide), if_pos (by decide)]; rfl
 case _ => rw [if_neg (by decide), if_pos (by decide)]; rfl
 case _ =>
  have hst : stop s := by rcases hh with h | h; cases h; exact h
  rw [if_pos (by decide), if_neg (hs61 hst)]; rfl
 case _ =>
  have hst : stop s := by rcases hh with h | h; cases h; exact h
  rw [if_pos (by decide), if_neg (hs61 hst)]; rfl
 case _ => rw [if_pos (by decide), if_pos (by simp)]; rfl
 case _ => rw [if_pos (by decide), if_pos (by simp)]; rfl
structure Good (t : Str) : Prop where
 ne : t ≠ []
 lx : Lx t (rawOf t)
 last : t.getLast? = some 40 → t = [40]
theorem spt_lex : ∀ (l : List Str) (x : Str), (∀ t ∈ l, Good t) → ∃ y, spt x l = x ++ y ∧ (x = [] ∨ x.getLast? = some 40 ∨ stop y) ∧ ∀ i, ∃ ts, Tk ts (raw l) ∧ LX y i = (ts, i + y.length) := by
 intro l
 induction l with
 | nil => intro x _; exact ⟨[], by simp [spt], Or.inr (Or.inr (fun b hb => by cases hb)), fun i => ⟨[], rfl, rfl⟩⟩
 | cons t l ih =>
  intro x hg
  have gt := hg t List.mem_cons_self
  obtain ⟨y', hy', hst', hlx'⟩ := ih (sep x t ++ t) (fun u hu => hg u (List.mem_cons_of_mem _ hu))
  have hlast : (sep x t ++ t).getLast? = t.getLast? := by
   rw [List.getLast?_append]
   cases h : t.getLast? with
   | none => exact absurd (List.getLast?_eq_none_iff.1 h) gt.ne
   | some b => rfl
  have hs : stop y' ∨ t = [40] := by
   rcases hst' with h | h | h
   ·
    exact absurd (List.append_eq_nil_iff.1 h).2 gt.ne
   ·
    rw [hlast] at h; exact Or.inr (gt.last h)
   ·
    exact Or.inl h
  have hread : ∀ i, ∃ ts, Tk ts (raw (t :: l)) ∧ LX (t ++ y') i = (ts, i + (t ++ y').length) := by
   intro i
   obtain ⟨t1, h1, e1⟩ := gt.lx y' hs i
   obtain ⟨t2, h2, e2⟩ := hlx' (i + t.length)
   refine ⟨t1 ++ t2, ?_, ?_⟩
   ·
    unfold Tk at h1 h2 ⊢; rw [List.map_append, h1, h2, raw_cons]
   ·
    rw [e1, e2]; simp only [List.length_append]; congr 1; omega
  rw [spt, hy']
  unfold sep
  by_cases hc : x ≠ [] ∧ x.getLast? ≠ some 40 ∧ t ≠ [41] ∧ t ≠ [59]
  ·
   rw [if_pos hc]
   refine ⟨32 :: (t ++ y'), by simp, Or.inr (Or.inr (fun b hb => by obtain rfl := Option.some.inj hb; exact Or.inl rfl)), fun i => ?_⟩
   obtain ⟨ts, h1, h2⟩ := hread (i + 1)
   refine ⟨ts, h1, ?_⟩
   rw [LX_blank _ _ (by decide), h2]
   simp only [List.length_cons]; congr 1; omega
  ·
   rw [if_neg hc]
   refine ⟨t ++ y', by simp, ?_, hread⟩
   by_cases h1 : x = []
   ·
    exact Or.inl h1
   by_cases h2 : x.getLast? = some 40
   ·
    exact Or.inr (Or.inl h2)
   refine Or.inr (Or.inr ?_)
   have h3 : t = [41] ∨ t = [59] := by
    by_cases a : t = [41]
    ·
     exact Or.inl a
    ·
     by_cases b : t = [59]
     ·
      exact Or.inr b
     ·
      exact absurd ⟨h1, h2, a, b⟩ hc
   intro b hb
   rcases h3 with rfl | rfl
   ·
    obtain rfl := Option.some.inj hb; exact Or.inr (Or.inl rfl)
   ·
    obtain rfl := Option.some.inj hb; exact Or.inr (Or.inr rfl)
/-! Each token that is written is a good one. -/
theorem last_not {t : Str} {p : UInt8 → Bool} (h : ∀ x ∈ t, p x = true) (hp : p 40 = false) : t.getLast? = some 40 → t = [40] := by
 intro e
 have := h _ (List.mem_of_getLast? e)
 rw [hp] at this; cases this
theorem good_word {w : Str} (hw : wordLen w = w.length) (h0 : w ≠ []) : Good w :=
 ⟨h0, by rw [rawOf_word hw]; exact lx_word hw h0, last_not (p := isW) (word_all hw) (by decide)⟩
theorem good_loc {w : Str} (hw : wordLen w = w.length) (h0 : w ≠ []) : Good (36 :: w) :=
 ⟨by simp, by rw [rawOf_loc hw]; exact lx_loc hw h0, last_not (p := fun x => isW x || x == 36) (fun x hx => by
  rcases List.mem_cons.1 hx with rfl | hx
  ·
   decide
  ·
   rw [word_all hw x hx]; rfl) (by decide)⟩
theorem good_field {a b : Str} (ha : wordLen a = a.length) (ha0 : a ≠ []) (hb : wordLen b = b.length) (hb0 : b ≠ []) : Good (a ++ 46 :: b) :=
 ⟨by simp, by rw [rawOf_field ha ha0]; exact lx_field ha ha0 hb hb0, last_not (p := fun x => isW x || x == 46) (fun x hx => by
  rcases List.mem_append.1 hx with hx | hx
  ·
   rw [word_all ha x hx]; rfl
  ·
   rcases List.mem_cons.1 hx with rfl | hx
   ·
    decide
   ·
    rw [word_all hb x hx]; rfl) (by decide)⟩
theorem good_dec {z : Int} (h1 : -999 ≤ z) (h2 : z ≤ 999) : Good (decZ z) := by
 obtain ⟨b, u, hd, _⟩ := decD_dig z.natAbs
 refine ⟨?_, lx_dec h1 h2, last_not (p := fun x => isD x || x == 45) (fun x hx => ?_) (by decide)⟩
 ·
  unfold decZ; split
  ·
   simp
  ·
   rw [hd]; simp
 ·
  unfold decZ at hx
  split at hx
  ·
   rcases List.mem_cons.1 hx with rfl | hx
   ·
    decide
   ·
    rw [List.all_eq_true.1 (decD_all _) x hx]; rfl
  ·
   rw [List.all_eq_true.1 (decD_all _) x hx]; rfl
theorem good_sign {t : Str} (h : t ∈ [[40], [41], [123], [125], [43], [45], [42], [59], [61], [60], [60, 61], [61, 61]]) : Good t := by
 refine ⟨?_, ?_, ?_⟩
 ·
  rintro rfl; exact absurd h (by decide)
 ·
  have : rawOf t = [t] := by
   have : ∀ t ∈ ([[40], [41], [123], [125], [43], [45], [42], [59], [61], [60], [60, 61], [61, 61]] : List Str), rawOf t = [t] := by decide
   exact this t h
  rw [this]; exact lx_sign h
 ·
  have : ∀ t ∈ ([[40], [41], [123], [125], [43], [45], [42], [59], [61], [60], [60, 61], [61, 61]] : List Str), t.getLast? = some 40 → t = [40] := by decide
  exact this t h
theorem good_name {t : Str} (h : nameOk t) : Good t := good_word h.2 (by rintro rfl; exact absurd h.1 (by decide))
theorem good_lit (w : Str) (h : wordLen w = w.length ∧ w ≠ []) : Good w := good_word h.1 h.2
theorem shape_more : ∀ k, k < 37 → ((shape k).word = [] ∨ (wordLen (shape k).word = (shape k).word.length ∧ (shape k).word ≠ [])) ∧ (shape k).high ≤ 999 ∧ ∀ c ∈ (shape k).parts, c ∈ ([110, 108, 100, 122, 69, 66, 76, 80, 79, 73, 83] : Str) ∨ [c] ∈ ([[40], [41], [123], [125], [43], [45], [42], [59], [61], [60], [60, 61], [61, 61]] : List Str) := by decide
theorem good_parts {d : Nat} {n : Nd} (hr : ∀ x, rt d x → ∀ t ∈ tk d x, Good t) : ∀ (cs : Str) (l : List Nd), kidsOk (rt d) cs l → ((110 : UInt8) ∈ cs → Good n.text) → ((108 : UInt8) ∈ cs → Good (36 :: n.text)) → ((100 : UInt8) ∈ cs ∨ (122 : UInt8) ∈ cs → Good (decZ n.num)) → (∀ c ∈ cs, c ∈ ([110, 108, 100, 122, 69, 66, 76, 80, 79, 73, 83] : Str) ∨ [c] ∈ ([[40], [41], [123], [125], [43], [45], [42], [59], [61], [60], [60, 61], [61, 61]] : List Str)) → ∀ t ∈ partsT (tk d) n cs l, Good t := by
 intro cs
 induction cs with
 | nil => intro l _ _ _ _ _ t ht; cases ht
 | cons c cs ih =>
  intro l hk hN hL hD hS t ht
  rw [partsT] at ht
  have rec_ := fun l' (hk' : kidsOk (rt d) cs l') => ih l' hk' (fun h => hN (List.mem_cons_of_mem _ h)) (fun h => hL (List.mem_cons_of_mem _ h)) (fun h => hD (h.imp (List.mem_cons_of_mem _) (List.mem_cons_of_mem _))) (fun c hc => hS c (List.mem_cons_of_mem _ hc))
  have step : ∀ (l' : List Nd) (ts : List Str), partT (tk d) n c l = (l', ts) → (∀ u ∈ ts, Good u) → kidsOk (rt d) cs l' → Good t := by
   intro l' ts e hts hk'
   rw [e] at ht
   rcases List.mem_append.1 ht with h | h
   ·
    exact hts t h
   ·
    exact rec_ l' hk' t h
  have one : ∀ u, Good u → ∀ v ∈ [u], Good v := fun u hu v hv => by rw [List.mem_singleton.1 hv]; exact hu
  by_cases c1 : c = 110
  ·
   subst c1
   rw [kidsOk, if_neg (by decide), if_neg (by decide), if_neg (by decide), if_neg (by decide), if_neg (by decide), if_neg (by decide), if_neg (by decide)] at hk
   exact step l _ (by unfold partT; rw [if_pos rfl]) (one _ (hN List.mem_cons_self)) hk
  by_cases c2 : c = 108
  ·
   subst c2
   rw [kidsOk, if_neg (by decide), if_neg (by decide), if_neg (by decide), if_neg (by decide), if_neg (by decide), if_neg (by decide), if_neg (by decide)] at hk
   exact step l _ (by unfold partT; rw [if_neg (by decide), if_pos rfl]) (one _ (hL List.mem_cons_self)) hk
  by_cases c3 : c = 100 ∨ c = 122
  ·
   rw [kidsOk, if_neg (by rintro rfl; rcases c3 with h | h <;> cases h), if_neg (by rintro rfl; rcases c3 with h | h <;> cases h), if_neg (by rintro rfl; rcases c3 with h | h <;> cases h), if_neg (by rintro rfl; rcases c3 with h | h <;> cases h), if_neg (by rintro rfl; rcases c3 with h | h <;> cases h), if_neg (by rintro rfl; rcases c3 with h | h <;> cases h), if_neg (by rintro rfl; rcases c3 with h | h <;> cases h)] at hk
   exact step l _ (by unfold partT; rw [if_neg c1, if_neg c2, if_pos c3]) (one _ (hD (c3.imp (fun h => by rw [h]; exact List.mem_cons_self) (fun h => by rw [h]; exact List.mem_cons_self)))) hk
  have kid : ∀ x l', l = x :: l' → (c = 69 ∨ c = 66 ∨ c = 76 ∨ c = 80) → rt d x → kidsOk (rt d) cs l' → Good t := by
   intro x l' e hc hx hk'
   subst e
   exact step l' (tk d x) (by unfold partT; rw [if_neg c1, if_neg c2, if_neg c3, if_pos hc]) (hr x hx) hk'
  by_cases c5 : c = 69
  ·
   rw [kidsOk, if_pos c5] at hk
   obtain ⟨x, l', e, _, hx, hk'⟩ := hk
   exact kid x l' e (Or.inl c5) hx hk'
  by_cases c6 : c = 66
  ·
   rw [kidsOk, if_neg c5, if_pos c6] at hk
   obtain ⟨x, l', e, _, hx, hk'⟩ := hk
   exact kid x l' e (Or.inr (Or.inl c6)) hx hk'
  by_cases c7 : c = 76
  ·
   rw [kidsOk, if_neg c5, if_neg c6, if_pos c7] at hk
   obtain ⟨x, l', e, _, hx, hk'⟩ := hk
   exact kid x l' e (Or.inr (Or.inr (Or.inl c7))) hx hk'
  by_cases c8 : c = 80
  ·
   rw [kidsOk, if_neg c5, if_neg c6, if_neg c7, if_pos c8] at hk
   obtain ⟨x, l', e, _, hx, hk'⟩ := hk
   exact kid x l' e (Or.inr (Or.inr (Or.inr c8))) hx hk'
  have cn : ¬ (c = 69 ∨ c = 66 ∨ c = 76 ∨ c = 80) := by rintro (h | h | h | h); exact c5 h; exact c6 h; exact c7 h; exact c8 h
  by_cases c9 : c = 79
  ·
   rw [kidsOk, if_neg c5, if_neg c6, if_neg c7, if_neg c8, if_pos c9] at hk
   rcases hk with ⟨rfl, hk'⟩ | ⟨x, l', rfl, _, hx, hk'⟩
   ·
    exact step [] [] (by unfold partT; rw [if_neg c1, if_neg c2, if_neg c3, if_neg cn, if_pos c9]) (fun u hu => by cases hu) hk'
   ·
    exact step l' (wElse :: tk d x) (by unfold partT; rw [if_neg c1, if_neg c2, if_neg c3, if_neg cn, if_pos c9]) (fun u hu => by
     rcases List.mem_cons.1 hu with rfl | hu
     ·
      exact good_lit _ ⟨by decide, by decide⟩
     ·
      exact hr x hx u hu) hk'
  by_cases c10 : c = 73
  ·
   rw [kidsOk, if_neg c5, if_neg c6, if_neg c7, if_neg c8, if_neg c9, if_pos c10] at hk
   exact step [] (l.flatMap (tk d)) (by unfold partT; rw [if_neg c1, if_neg c2, if_neg c3, if_neg cn, if_neg c9, if_pos (Or.inl c10)]) (fun u hu => by
    obtain ⟨x, hx, hu⟩ := List.mem_flatMap.1 hu
    exact hr x (hk.1 x hx).2 u hu) hk.2
  by_cases c11 : c = 83
  ·
   rw [kidsOk, if_neg c5, if_neg c6, if_neg c7, if_neg c8, if_neg c9, if_neg c10, if_pos c11] at hk
   exact step [] (l.flatMap (tk d)) (by unfold partT; rw [if_neg c1, if_neg c2, if_neg c3, if_neg cn, if_neg c9, if_pos (Or.inr c11)]) (fun u hu => by
    obtain ⟨x, hx, hu⟩ := List.mem_flatMap.1 hu
    exact hr x (hk.1 x hx).2.2 u hu) hk.2
  ·
   rw [kidsOk, if_neg c5, if_neg c6, if_neg c7, if_neg c8, if_neg c9, if_neg c10, if_neg c11] at hk
   have cm : ¬ (c = 73 ∨ c = 83) := by rintro (h | h); exact c10 h; exact c11 h
   refine step l [[c]] (by unfold partT; rw [if_neg c1, if_neg c2, if_neg c3, if_neg cn, if_neg c9, if_neg cm]) (one _ ?_) hk
   rcases hS c List.mem_cons_self with h | h
   ·
    simp only [List.mem_cons, List.not_mem_nil, or_false] at h
    rcases h with h | h | h | h | h | h | h | h | h | h | h
    ·
     exact absurd h c1
    ·
     exact absurd h c2
    ·
     exact absurd (Or.inl h) c3
    ·
     exact absurd (Or.inr h) c3
    ·
     exact absurd h c5
    ·
     exact absurd h c6
    ·
     exact absurd h c7
    ·
     exact absurd h c8
    ·
     exact absurd h c9
    ·
     exact absurd h c10
    ·
     exact absurd h c11
   ·
    exact good_sign h
theorem good_opd {d : Nat} {x : Nd} (h : ∀ t ∈ tk d x, Good t) (least : Nat) : ∀ t ∈ opd (tk d) least x, Good t := by
 intro t ht
 unfold opd at ht
 split at ht
 ·
  exact h t ht
 ·
  rcases List.mem_append.1 ht with ht | ht
  ·
   rcases List.mem_append.1 ht with ht | ht
   ·
    rw [List.mem_singleton.1 ht]; exact good_sign (by decide)
   ·
    exact h t ht
  ·
   rw [List.mem_singleton.1 ht]; exact good_sign (by decide)
theorem good_all : ∀ d x, rt d x → ∀ t ∈ tk d x, Good t := by
 intro d
 induction d with
 | zero => intro x h; exact absurd h (by unfold rt; simp)
 | succ d ih =>
  intro x h t ht
  by_cases hop : 26 ≤ x.kind ∧ x.kind ≤ 31
  ·
   have h' := h
   unfold rt at h'
   rw [if_pos hop] at h'
   obtain ⟨_, _, a, b, hk, ha, hb, hra, hrb⟩ := h'
   have hs : (signOf x.kind).1 ≠ 0 ∧ (signOf x.kind).2 ∈ ([[40], [41], [123], [125], [43], [45], [42], [59], [61], [60], [60, 61], [61, 61]] : List Str) := by
    rcases (show x.kind = 26 ∨ x.kind = 27 ∨ x.kind = 28 ∨ x.kind = 29 ∨ x.kind = 30 ∨ x.kind = 31 by omega) with e | e | e | e | e | e <;> rw [e] <;> decide
   rw [tk, if_pos hs.1, hk] at ht
   dsimp only at ht
   rcases List.mem_append.1 ht with ht | ht
   ·
    exact good_opd (ih a hra) _ t ht
   ·
    rcases List.mem_cons.1 ht with rfl | ht
    ·
     exact good_sign hs.2
    ·
     exact good_opd (ih b hrb) _ t ht
  ·
   obtain ⟨h0, h37, htx, hz, hks⟩ := rt_leaf h hop
   rw [tk_leaf (sign_leaf hop)] at ht
   obtain ⟨m1, m2, m3⟩ := shape_more x.kind.toNat (by omega)
   obtain ⟨f1, f2, f3⟩ := shape_facts x.kind.toNat (by omega)
   rcases List.mem_append.1 ht with ht | ht
   ·
    unfold wordT at ht
    rcases m1 with m1 | m1
    ·
     rw [if_pos m1] at ht; cases ht
    ·
     rw [if_neg m1.2] at ht
     rw [List.mem_singleton.1 ht]; exact good_lit _ m1
   ·
    refine good_parts ih _ _ hks (fun hin => ?_) (fun hin => ?_) (fun hin => ?_) m3 t ht
    ·
     unfold textOk at htx
     by_cases h35 : x.kind = 35
     ·
      rw [if_pos h35] at htx
      obtain ⟨a, b, e, ha, hb⟩ := htx
      rw [e]
      exact good_field ha.2 (by rintro rfl; exact absurd ha.1 (by decide)) hb.2 (by rintro rfl; exact absurd hb.1 (by decide))
     ·
      rw [if_neg h35, if_pos hin] at htx; exact good_name htx
    ·
     have h35 : x.kind ≠ 35 := by intro e; rw [e] at hin; exact absurd hin (by decide)
     unfold textOk at htx
     rw [if_neg h35, if_neg (f2 hin), if_pos hin] at htx
     exact good_loc htx.2 htx.1
    ·
     unfold numOk at hz
     by_cases h100 : (100 : UInt8) ∈ (shape x.kind.toNat).parts
     ·
      rw [if_pos h100] at hz; exact good_dec (by omega) (by omega)
     ·
      rw [if_neg h100, if_pos (hin.resolve_left h100)] at hz; exact good_dec (by omega) (by omega)
def txt (d : Nat) (x : Nd) : Str := spt [] (tk d x)
theorem write_right {d : Nat} {x : Nd} (h : rt d x) : ((txt d x).length ≤ 1024 → wNode d x ⟨[], false⟩ = ⟨txt d x, false⟩) ∧ (1024 < (txt d x).length → (wNode d x ⟨[], false⟩).bad = true) := by
 obtain ⟨h1, h2⟩ := puts_text (tk d x) [] false (by simp)
 rcases (writes_all d x h).1 ⟨[], false⟩ with ⟨a, b⟩ | e
 ·
  refine ⟨fun hl => ?_, fun _ => a⟩
  rw [h1 hl] at b; cases b
 ·
  rw [e]; exact ⟨h1, h2⟩
theorem read_right {d : Nat} {x : Nd} (h : rt d x) (hk : 0 ≤ x.kind ∧ x.kind ≤ 6) : ∃ ts, LX (txt d x) 0 = (ts, (txt d x).length) ∧ Ev (fun k => rdDef k (S ts)) (x, S []) := by
 obtain ⟨y, hy, _, hl⟩ := spt_lex (tk d x) [] (good_all d x h)
 obtain ⟨ts, h1, h2⟩ := hl 0
 have e : txt d x = y := by unfold txt; rw [hy]; rfl
 rw [e]
 exact ⟨ts, by rw [h2, Nat.zero_add], def_read h hk ts h1⟩
/-! What is read is right. -/
def RT (x : Nd) : Prop := ∃ d, rt d x
theorem kidsOk_mono {P Q : Nd → Prop} (h : ∀ x, P x → Q x) : ∀ (cs : Str) (l : List Nd), kidsOk P cs l → kidsOk Q cs l := by
 intro cs
 induction cs with
 | nil => intro l hk; exact hk
 | cons c cs ih =>
  intro l hk
  rw [kidsOk] at hk ⊢
  split
  ·
   next e => rw [if_pos e] at hk; obtain ⟨x, l', a, b, p, q⟩ := hk; exact ⟨x, l', a, b, h x p, ih l' q⟩
  ·
   next e1 =>
   rw [if_neg e1] at hk
   split
   ·
    next e => rw [if_pos e] at hk; obtain ⟨x, l', a, b, p, q⟩ := hk; exact ⟨x, l', a, b, h x p, ih l' q⟩
   ·
    next e2 =>
    rw [if_neg e2] at hk
    split
    ·
     next e => rw [if_pos e] at hk; obtain ⟨x, l', a, b, p, q⟩ := hk; exact ⟨x, l', a, b, h x p, ih l' q⟩
    ·
     next e3 =>
     rw [if_neg e3] at hk
     split
     ·
      next e => rw [if_pos e] at hk; obtain ⟨x, l', a, b, p, q⟩ := hk; exact ⟨x, l', a, b, h x p, ih l' q⟩
     ·
      next e4 =>
      rw [if_neg e4] at hk
      split
      ·
       next e =>
       rw [if_pos e] at hk
       rcases hk with ⟨a, q⟩ | ⟨x, l', a, b, p, q⟩
       ·
        exact Or.inl ⟨a, ih [] q⟩
       ·
        exact Or.inr ⟨x, l', a, b, h x p, ih l' q⟩
      ·
       next e5 =>
       rw [if_neg e5] at hk
       split
       ·
        next e => rw [if_pos e] at hk; exact ⟨fun x hx => ⟨(hk.1 x hx).1, h x (hk.1 x hx).2⟩, ih [] hk.2⟩
       ·
        next e6 =>
        rw [if_neg e6] at hk
        split
        ·
         next e => rw [if_pos e] at hk; exact ⟨fun x hx => ⟨(hk.1 x hx).1, (hk.1 x hx).2.1, h x (hk.1 x hx).2.2⟩, ih [] hk.2⟩
        ·
         next e7 => rw [if_neg e7] at hk; exact ih l hk
theorem rt_succ : ∀ d x, rt d x → rt (d + 1) x := by
 intro d
 induction d with
 | zero => intro x h; exact absurd h (by unfold rt; simp)
 | succ d ih =>
  intro x h
  by_cases hop : 26 ≤ x.kind ∧ x.kind ≤ 31
  ·
   have h' := h
   unfold rt at h'
   rw [if_pos hop] at h'
   obtain ⟨a1, a2, a, b, a3, a4, a5, a6, a7⟩ := h'
   rw [rt, if_pos hop]
   exact ⟨a1, a2, a, b, a3, a4, a5, ih a a6, ih b a7⟩
  ·
   obtain ⟨a1, a2, a3, a4, a5⟩ := rt_leaf h hop
   rw [rt, if_neg hop]
   exact ⟨a1, a2, a3, a4, kidsOk_mono ih _ _ a5⟩
theorem rt_le {d e : Nat} (h : d ≤ e) {x : Nd} (hx : rt d x) : rt e x := by
 induction e with
 | zero =>
  obtain rfl : d = 0 := by omega
  exact hx
 | succ e ih =>
  by_cases he : d = e + 1
  ·
   subst he; exact hx
  ·
   exact rt_succ e x (ih (by omega))
theorem all_common {P : Nd → Prop} (l : List Nd) (h : ∀ x ∈ l, P x ∧ RT x) : ∃ d, ∀ x ∈ l, P x ∧ rt d x := by
 induction l with
 | nil => exact ⟨0, fun x hx => by cases hx⟩
 | cons y l ih =>
  obtain ⟨d, hd⟩ := ih (fun x hx => h x (List.mem_cons_of_mem _ hx))
  obtain ⟨hp, e, he⟩ := h y List.mem_cons_self
  refine ⟨max d e, fun x hx => ?_⟩
  rcases List.mem_cons.1 hx with rfl | hx
  ·
   exact ⟨hp, rt_le (by omega) he⟩
  ·
   exact ⟨(hd x hx).1, rt_le (by omega) (hd x hx).2⟩
theorem kids_common : ∀ (cs : Str) (l : List Nd), kidsOk RT cs l → ∃ d, kidsOk (rt d) cs l := by
 intro cs
 induction cs with
 | nil => intro l h; exact ⟨0, h⟩
 | cons c cs ih =>
  intro l hk
  have up : ∀ {d e : Nat} {cs : Str} {l : List Nd}, d ≤ e → kidsOk (rt d) cs l → kidsOk (rt e) cs l := fun h hk => kidsOk_mono (fun x hx => rt_le h hx) _ _ hk
  rw [kidsOk] at hk
  by_cases c5 : c = 69
  ·
   rw [if_pos c5] at hk
   obtain ⟨x, l', a, b, ⟨e, p⟩, q⟩ := hk
   obtain ⟨d, hd⟩ := ih l' q
   exact ⟨max d e, by rw [kidsOk, if_pos c5]; exact ⟨x, l', a, b, rt_le (by omega) p, up (by omega) hd⟩⟩
  rw [if_neg c5] at hk
  by_cases c6 : c = 66
  ·
   rw [if_pos c6] at hk
   obtain ⟨x, l', a, b, ⟨e, p⟩, q⟩ := hk
   obtain ⟨d, hd⟩ := ih l' q
   exact ⟨max d e, by rw [kidsOk, if_neg c5, if_pos c6]; exact ⟨x, l', a, b, rt_le (by omega) p, up (by omega) hd⟩⟩
  rw [if_neg c6] at hk
  by_cases c7 : c = 76
  ·
   rw [if_pos c7] at hk
   obtain ⟨x, l', a, b, ⟨e, p⟩, q⟩ := hk
   obtain ⟨d, hd⟩ := ih l' q
   exact ⟨max d e, by rw [kidsOk, if_neg c5, if_neg c6, if_pos c7]; exact ⟨x, l', a, b, rt_le (by omega) p, up (by omega) hd⟩⟩
  rw [if_neg c7] at hk
  by_cases c8 : c = 80
  ·
   rw [if_pos c8] at hk
   obtain ⟨x, l', a, b, ⟨e, p⟩, q⟩ := hk
   obtain ⟨d, hd⟩ := ih l' q
   exact ⟨max d e, by rw [kidsOk, if_neg c5, if_neg c6, if_neg c7, if_pos c8]; exact ⟨x, l', a, b, rt_le (by omega) p, up (by omega) hd⟩⟩
  rw [if_neg c8] at hk
  by_cases c9 : c = 79
  ·
   rw [if_pos c9] at hk
   rcases hk with ⟨a, q⟩ | ⟨x, l', a, b, ⟨e, p⟩, q⟩
   ·
    obtain ⟨d, hd⟩ := ih [] q
    exact ⟨d, by rw [kidsOk, if_neg c5, if_neg c6, if_neg c7, if_neg c8, if_pos c9]; exact Or.inl ⟨a, hd⟩⟩
   ·
    obtain ⟨d, hd⟩ := ih l' q
    exact ⟨max d e, by rw [kidsOk, if_neg c5, if_neg c6, if_neg c7, if_neg c8, if_pos c9]; exact Or.inr ⟨x, l', a, b, rt_le (by omega) p, up (by omega) hd⟩⟩
  rw [if_neg c9] at hk
  by_cases c10 : c = 73
  ·
   rw [if_pos c10] at hk
   obtain ⟨e, he⟩ := all_common (P := fun x => x.kind = 7) l hk.1
   obtain ⟨d, hd⟩ := ih [] hk.2
   exact ⟨max d e, by rw [kidsOk, if_neg c5, if_neg c6, if_neg c7, if_neg c8, if_neg c9, if_pos c10]; exact ⟨fun x hx => ⟨(he x hx).1, rt_le (by omega) (he x hx).2⟩, up (by omega) hd⟩⟩
  rw [if_neg c10] at hk
  by_cases c11 : c = 83
  ·
   rw [if_pos c11] at hk
   obtain ⟨e, he⟩ := all_common (P := fun x => 9 ≤ x.kind ∧ x.kind ≤ 25) l (fun x hx => ⟨⟨(hk.1 x hx).1, (hk.1 x hx).2.1⟩, (hk.1 x hx).2.2⟩)
   obtain ⟨d, hd⟩ := ih [] hk.2
   exact ⟨max d e, by rw [kidsOk, if_neg c5, if_neg c6, if_neg c7, if_neg c8, if_neg c9, if_neg c10, if_pos c11]; exact ⟨fun x hx => ⟨(he x hx).1.1, (he x hx).1.2, rt_le (by omega) (he x hx).2⟩, up (by omega) hd⟩⟩
  rw [if_neg c11] at hk
  obtain ⟨d, hd⟩ := ih l hk
  exact ⟨d, by rw [kidsOk, if_neg c5, if_neg c6, if_neg c7, if_neg c8, if_neg c9, if_neg c10, if_neg c11]; exact hd⟩
/-! Tokens of a text are proper ones. -/
def Pr (s : St) : Prop := ∀ t ∈ s.toks, tokLen t.1 = t.1.length ∧ t.1 ≠ []
theorem Pr.adv {s : St} (h : Pr s) : Pr s.adv := fun t ht => h t (List.mem_of_mem_tail ht)
theorem Pr.fail {s : St} (h : Pr s) (e : Nat) : Pr (s.fail e) := by
 unfold St.fail; split
 ·
  exact h
 ·
  exact h
theorem fail_e {s : St} {e : Nat} (he : e ≠ 0) : (s.fail e).e ≠ 0 := by
 unfold St.fail; split
 ·
  exact he
 ·
  next h => exact h
theorem look_pr {s : St} (h : Pr s) (hn : s.look ≠ []) : tokLen s.look = s.look.length := by
 unfold St.look at hn ⊢
 by_cases he : s.e = 0
 ·
  rw [if_pos he] at hn ⊢
  cases ht : s.toks with
  | nil => rw [ht] at hn; exact absurd rfl hn
  | cons t u => exact (h t (by rw [ht]; exact List.mem_cons_self)).1
 ·
  rw [if_neg he] at hn; exact absurd rfl hn
theorem getText_e {s : St} {c : Nat} (h : (s.getText c).2.e = 0) : s.e = 0 := by
 unfold St.getText at h
 split at h
 ·
  exact h
 ·
  exact absurd h (fail_e (by decide))
theorem getText_ok {s : St} {c : Nat} (hp : Pr s) (h : (s.getText c).2.e = 0) : s.e = 0 ∧ Pr (s.getText c).2 ∧ cls s.look = c ∧ (s.getText c).1 = s.look := by
 unfold St.getText at h ⊢
 by_cases hl : cls s.look = c
 ·
  rw [if_pos hl] at h ⊢; exact ⟨h, hp.adv, hl, rfl⟩
 ·
  rw [if_neg hl] at h; exact absurd h (fail_e (by decide))
theorem name_ok {s : St} (hp : Pr s) (h : s.name.2.e = 0) : s.e = 0 ∧ Pr s.name.2 ∧ nameOk s.name.1 := by
 obtain ⟨a, b, c, d⟩ := getText_ok hp h
 refine ⟨a, b, ?_⟩
 unfold St.name; rw [d]
 obtain ⟨x, u, hx, hl, _⟩ := cls_name c
 have ht := look_pr hp (by rw [hx]; simp)
 refine ⟨c, ?_⟩
 rw [hx] at ht ⊢
 rw [tokLen, if_pos hl] at ht
 exact ht
theorem loc_ok {s : St} (hp : Pr s) (h : s.loc.2.e = 0) : s.e = 0 ∧ Pr s.loc.2 ∧ wordOk s.loc.1 := by
 obtain ⟨a, b, c, d⟩ := getText_ok (c := 5) hp h
 refine ⟨a, b, ?_⟩
 unfold St.loc; dsimp only; rw [d]
 obtain ⟨u, hu⟩ : ∃ u, s.look = 36 :: u := by
  generalize s.look = t at c
  cases t with
  | nil => cases c
  | cons x u =>
   unfold cls at c; dsimp only at c
   split at c
   ·
    split at c <;> cases c
   ·
    split at c
    ·
     cases c
    ·
     split at c
     ·
      next h => exact ⟨u, by rw [h]⟩
     ·
      cases c
 have ht := look_pr hp (by rw [hu]; simp)
 rw [hu] at ht ⊢
 rw [tokLen, if_neg (by decide), if_neg (by decide), if_pos rfl] at ht
 show wordOk u
 by_cases h0 : wordLen u = 0
 ·
  rw [if_pos h0] at ht; simp at ht
 ·
  rw [if_neg h0, List.length_cons] at ht
  exact ⟨by rintro rfl; exact h0 rfl, by omega⟩
theorem numeral_ok {s : St} {low high : Nat} (hp : Pr s) (h : (s.numeral low high).2.e = 0) : s.e = 0 ∧ Pr (s.numeral low high).2 ∧ (low : Int) ≤ (s.numeral low high).1 ∧ (s.numeral low high).1 ≤ (high : Int) := by
 unfold St.numeral at h ⊢
 by_cases h1 : cls s.look ≠ 4
 ·
  rw [if_pos h1] at h; exact absurd h (fail_e (by decide))
 ·
  rw [if_neg h1] at h ⊢
  by_cases h2 : decN s.look < low ∨ high < decN s.look
  ·
   rw [if_pos h2] at h; exact absurd h (fail_e (by decide))
  ·
   rw [if_neg h2] at h ⊢
   exact ⟨h, hp.adv, by dsimp only; omega, by dsimp only; omega⟩
theorem number_ok {s : St} {high : Nat} (hp : Pr s) (h : (s.number 0 high).2.e = 0) : s.e = 0 ∧ Pr (s.number 0 high).2 ∧ -(high : Int) ≤ (s.number 0 high).1 ∧ (s.number 0 high).1 ≤ (high : Int) := by
 unfold St.number at h ⊢
 by_cases h1 : s.look = [45]
 ·
  rw [if_pos h1] at h ⊢
  obtain ⟨a, b, c, d⟩ := numeral_ok hp.adv h
  exact ⟨a, b, by dsimp only; omega, by dsimp only; omega⟩
 ·
  rw [if_neg h1] at h ⊢
  obtain ⟨a, b, c, d⟩ := numeral_ok hp h
  exact ⟨a, b, by omega, by omega⟩
theorem place_ok {s : St} (hp : Pr s) (h : s.place.2.e = 0) : s.e = 0 ∧ Pr s.place.2 ∧ (s.place.1.kind = 34 ∨ s.place.1.kind = 35) ∧ RT s.place.1 := by
 have leaf : ∀ k t, (k = 34 ∨ k = 35) → textOk k [110] t → RT (.mk k t 0 []) := by
  intro k t hk ht
  refine ⟨1, ?_⟩
  have f1 : (shape k.toNat).parts = [110] := by rcases hk with rfl | rfl <;> decide
  rw [rt, if_neg (by simp only [Nd.kind]; omega)]
  simp only [Nd.kind, Nd.text, Nd.num, Nd.kids]
  refine ⟨by omega, by omega, by rw [f1]; exact ht, ?_, ?_⟩
  ·
   unfold numOk; rw [f1, if_neg (by decide), if_neg (by decide)]
  ·
   rw [f1, kidsOk, if_neg (by decide), if_neg (by decide), if_neg (by decide), if_neg (by decide), if_neg (by decide), if_neg (by decide), if_neg (by decide)]; rfl
 unfold St.place at h ⊢
 by_cases h1 : s.name.2.look = [46]
 ·
  rw [if_pos h1] at h ⊢
  dsimp only at h ⊢
  have he : s.name.2.adv.e = 0 := getText_e (c := 3) h
  obtain ⟨a, b, c⟩ := name_ok hp he
  obtain ⟨a2, b2, c2⟩ := name_ok b.adv h
  exact ⟨a, b2, Or.inr rfl, leaf 35 _ (Or.inr rfl) (by unfold textOk; rw [if_pos rfl]; exact ⟨_, _, rfl, c, c2⟩)⟩
 ·
  rw [if_neg h1] at h ⊢
  dsimp only at h ⊢
  obtain ⟨a, b, c⟩ := name_ok hp h
  exact ⟨a, b, Or.inl rfl, leaf 34 _ (Or.inl rfl) (by unfold textOk; rw [if_neg (by decide), if_pos (by decide)]; exact c)⟩
def once : Str → Bool
 | [] => true
 | c :: cs => (if c = 110 || c = 108 then !(cs.contains 110) && !(cs.contains 108) else true) && (if c = 100 || c = 122 then !(cs.contains 100) && !(cs.contains 122) else true) && (if c = 73 || c = 83 then cs = [125] else true) && (if c = 79 then cs = [] else true) && once cs
theorem shapes_once : ∀ k, k < 37 → once (shape k).parts = true := by decide
structure PO (kd : Nat) (cs : Str) (m n : Nd) : Prop where
 kind : n.kind = m.kind
 text : if (110 : UInt8) ∈ cs then nameOk n.text else if (108 : UInt8) ∈ cs then wordOk n.text else n.text = m.text
 num : if (100 : UInt8) ∈ cs then ((shape kd).low : Int) ≤ n.num ∧ n.num ≤ ((shape kd).high : Int) else if (122 : UInt8) ∈ cs then -((shape kd).high : Int) ≤ n.num ∧ n.num ≤ ((shape kd).high : Int) else n.num = m.num
 kids : ∃ l, n.kids = m.kids ++ l ∧ kidsOk RT cs l
theorem po_join {kd : Nat} {c : UInt8} {cs : Str} {m n r : Nd} (ho : once (c :: cs) = true) (h1 : PO kd [c] m n) (h2 : PO kd cs n r) : PO kd (c :: cs) m r := by
 rw [once] at ho
 simp only [Bool.and_eq_true] at ho
 obtain ⟨⟨⟨⟨o1, o2⟩, o3⟩, o4⟩, _⟩ := ho
 refine ⟨h2.kind.trans h1.kind, ?_, ?_, ?_⟩
 ·
  have a := h1.text; have b := h2.text
  by_cases c1 : c = 110
  ·
   subst c1
   simp at o1
   rw [if_pos List.mem_cons_self]
   rw [if_neg (by simpa using o1.1), if_neg (by simpa using o1.2)] at b
   rw [if_pos List.mem_cons_self] at a
   rw [b]; exact a
  ·
   by_cases c2 : c = 108
   ·
    subst c2
    simp at o1
    rw [if_neg (by simp; exact o1.1), if_pos List.mem_cons_self]
    rw [if_neg (by simpa using o1.1), if_neg (by simpa using o1.2)] at b
    rw [if_neg (by simp), if_pos List.mem_cons_self] at a
    rw [b]; exact a
   ·
    have e1 : (110 : UInt8) ∈ c :: cs ↔ (110 : UInt8) ∈ cs := by simp [Ne.symm c1]
    have e2 : (108 : UInt8) ∈ c :: cs ↔ (108 : UInt8) ∈ cs := by simp [Ne.symm c2]
    rw [if_neg (by simp [Ne.symm c1]), if_neg (by simp [Ne.symm c2])] at a
    simp only [e1, e2]
    rw [← a]; exact b
 ·
  have a := h1.num; have b := h2.num
  by_cases c1 : c = 100
  ·
   subst c1
   simp at o2
   rw [if_pos List.mem_cons_self]
   rw [if_neg (by simpa using o2.1), if_neg (by simpa using o2.2)] at b
   rw [if_pos List.mem_cons_self] at a
   rw [b]; exact a
  ·
   by_cases c2 : c = 122
   ·
    subst c2
    simp at o2
    rw [if_neg (by simp; exact o2.1), if_pos List.mem_cons_self]
    rw [if_neg (by simpa using o2.1), if_neg (by simpa using o2.2)] at b
    rw [if_neg (by simp), if_pos List.mem_cons_self] at a
    rw [b]; exact a
   ·
    have e1 : (100 : UInt8) ∈ c :: cs ↔ (100 : UInt8) ∈ cs := by simp [Ne.symm c1]
    have e2 : (122 : UInt8) ∈ c :: cs ↔ (122 : UInt8) ∈ cs := by simp [Ne.symm c2]
    rw [if_neg (by simp [Ne.symm c1]), if_neg (by simp [Ne.symm c2])] at a
    simp only [e1, e2]
    rw [← a]; exact b
 ·
  obtain ⟨l1, e1, k1⟩ := h1.kids
  obtain ⟨l2, e2, k2⟩ := h2.kids
  refine ⟨l1 ++ l2, by rw [e2, e1, List.append_assoc], ?_⟩
  rw [kidsOk] at k1 ⊢
  by_cases c5 : c = 69
  ·
   rw [if_pos c5] at k1 ⊢
   obtain ⟨x, l', rfl, b, p, q⟩ := k1
   obtain rfl : l' = [] := q
   exact ⟨x, l2, rfl, b, p, k2⟩
  rw [if_neg c5] at k1 ⊢
  by_cases c6 : c = 66
  ·
   rw [if_pos c6] at k1 ⊢
   obtain ⟨x, l', rfl, b, p, q⟩ := k1
   obtain rfl : l' = [] := q
   exact ⟨x, l2, rfl, b, p, k2⟩
  rw [if_neg c6] at k1 ⊢
  by_cases c7 : c = 76
  ·
   rw [if_pos c7] at k1 ⊢
   obtain ⟨x, l', rfl, b, p, q⟩ := k1
   obtain rfl : l' = [] := q
   exact ⟨x, l2, rfl, b, p, k2⟩
  rw [if_neg c7] at k1 ⊢
  by_cases c8 : c = 80
  ·
   rw [if_pos c8] at k1 ⊢
   obtain ⟨x, l', rfl, b, p, q⟩ := k1
   obtain rfl : l' = [] := q
   exact ⟨x, l2, rfl, b, p, k2⟩
  rw [if_neg c8] at k1 ⊢
  by_cases c9 : c = 79
  ·
   rw [if_pos c9] at k1 o4 ⊢
   obtain rfl : cs = [] := of_decide_eq_true o4
   obtain rfl : l2 = [] := k2
   rcases k1 with ⟨rfl, _⟩ | ⟨x, l', rfl, b, p, q⟩
   ·
    exact Or.inl ⟨rfl, rfl⟩
   ·
    obtain rfl : l' = [] := q
    exact Or.inr ⟨x, [], rfl, b, p, rfl⟩
  rw [if_neg c9] at k1 ⊢
  have sgn : ∀ l, kidsOk RT [125] l → l = [] := fun l h => by
   rw [kidsOk, if_neg (by decide), if_neg (by decide), if_neg (by decide), if_neg (by decide), if_neg (by decide), if_neg (by decide), if_neg (by decide)] at h
   exact h
  by_cases c10 : c = 73
  ·
   rw [if_pos c10] at k1 ⊢
   rw [if_pos (by simp [c10])] at o3
   obtain rfl : cs = [125] := of_decide_eq_true o3
   obtain rfl := sgn l2 k2
   rw [List.append_nil]; exact ⟨k1.1, k2⟩
  rw [if_neg c10] at k1 ⊢
  by_cases c11 : c = 83
  ·
   rw [if_pos c11] at k1 ⊢
   rw [if_pos (by simp [c11])] at o3
   obtain rfl : cs = [125] := of_decide_eq_true o3
   obtain rfl := sgn l2 k2
   rw [List.append_nil]; exact ⟨k1.1, k2⟩
  rw [if_neg c11] at k1 ⊢
  obtain rfl : l1 = [] := k1
  exact k2
theorem po_right {kd : Nat} {n : Nd} (hk : kd < 37) (hop : ¬ (26 ≤ kd ∧ kd ≤ 31)) (h35 : kd ≠ 35) (h : PO kd (shape kd).parts (.mk (kd : Int) [] 0 []) n) : n.kind = (kd : Int) ∧ RT n := by
 have hkd : n.kind = (kd : Int) := h.kind
 obtain ⟨l, e, hl⟩ := h.kids
 have e' : n.kids = l := by rw [e]; rfl
 obtain ⟨d, hd⟩ := kids_common _ _ hl
 refine ⟨hkd, d + 1, ?_⟩
 have hkn : n.kind.toNat = kd := by rw [hkd]; simp
 obtain ⟨f1, f2, f3⟩ := shape_facts kd hk
 rw [rt, if_neg (by omega), hkn]
 refine ⟨by omega, by omega, ?_, ?_, by rw [e']; exact hd⟩
 ·
  unfold textOk
  rw [if_neg (by omega)]
  exact h.text
 ·
  unfold numOk
  exact h.num
theorem po_text {kd : Nat} {m : Nd} {t : Str} (h : nameOk t) : PO kd [110] m (m.setText t) := by
 cases m
 exact ⟨rfl, by rw [if_pos (by decide)]; exact h, by rw [if_neg (by decide), if_neg (by decide)]; rfl, [], by simp [Nd.setText, Nd.kids], by
  rw [kidsOk, if_neg (by decide), if_neg (by decide), if_neg (by decide), if_neg (by decide), if_neg (by decide), if_neg (by decide), if_neg (by decide)]; rfl⟩
theorem po_loc {kd : Nat} {m : Nd} {t : Str} (h : wordOk t) : PO kd [108] m (m.setText t) := by
 cases m
 exact ⟨rfl, by rw [if_neg (by decide), if_pos (by decide)]; exact h, by rw [if_neg (by decide), if_neg (by decide)]; rfl, [], by simp [Nd.setText, Nd.kids], by
  rw [kidsOk, if_neg (by decide), if_neg (by decide), if_neg (by decide), if_neg (by decide), if_neg (by decide), if_neg (by decide), if_neg (by decide)]; rfl⟩
theorem po_num {kd : Nat} {m : Nd} {z : Int} (h : ((shape kd).low : Int) ≤ z ∧ z ≤ ((shape kd).high : Int)) : PO kd [100] m (m.setNum z) := by
 cases m
 exact ⟨rfl, by rw [if_neg (by decide), if_neg (by decide)]; rfl, by rw [if_pos (by decide)]; exact h, [], by simp [Nd.setNum, Nd.kids], by
  rw [kidsOk, if_neg (by decide), if_neg (by decide), if_neg (by decide), if_neg (by decide), if_neg (by decide), if_neg (by decide), if_neg (by decide)]; rfl⟩
theorem po_zed {kd : Nat} {m : Nd} {z : Int} (h : -((shape kd).high : Int) ≤ z ∧ z ≤ ((shape kd).high : Int)) : PO kd [122] m (m.setNum z) := by
 cases m
 exact ⟨rfl, by rw [if_neg (by decide), if_neg (by decide)]; rfl, by rw [if_neg (by decide), if_pos (by decide)]; exact h, [], by simp [Nd.setNum, Nd.kids], by
  rw [kidsOk, if_neg (by decide), if_neg (by decide), if_neg (by decide), if_neg (by decide), if_neg (by decide), if_neg (by decide), if_neg (by decide)]; rfl⟩
theorem po_of {kd : Nat} {c : UInt8} {m : Nd} {l : List Nd} (hc : c ≠ 110 ∧ c ≠ 108 ∧ c ≠ 100 ∧ c ≠ 122) (hk : kidsOk RT [c] l) : PO kd [c] m (pushes m l) := by
 obtain ⟨a1, a2, a3, a4⟩ := hc
 exact ⟨rfl, by rw [if_neg (by simp [Ne.symm a1]), if_neg (by simp [Ne.symm a2])]; rfl, by rw [if_neg (by simp [Ne.symm a3]), if_neg (by simp [Ne.symm a4])]; rfl, l, rfl, hk⟩
structure Stp (s s' : St) : Prop where
 pr : Pr s → Pr s'
 er : s'.e = 0 → s.e = 0
theorem Stp.refl (s : St) : Stp s s := ⟨id, id⟩
theorem Stp.trans {a b c : St} (h : Stp a b) (h2 : Stp b c) : Stp a c := ⟨fun x => h2.pr (h.pr x), fun x => h.er (h2.er x)⟩
theorem stp_adv (s : St) : Stp s s.adv := ⟨Pr.adv, id⟩
theorem stp_fail (s : St) (e : Nat) (he : e ≠ 0) : Stp s (s.fail e) := ⟨fun h => h.fail e, fun h => absurd h (fail_e he)⟩
theorem stp_expect (s : St) (t : Str) : Stp s (s.expect t) := by
 unfold St.expect; split
 ·
  exact stp_adv s
 ·
  exact stp_fail s 2 (by decide)
theorem stp_get (s : St) (c : Nat) : Stp s (s.getText c).2 := by
 unfold St.getText; split
 ·
  exact stp_adv s
 ·
  exact stp_fail s 2 (by decide)
theorem stp_name (s : St) : Stp s s.name.2 := stp_get s 3
theorem stp_loc (s : St) : Stp s s.loc.2 := stp_get s 5
theorem stp_numeral (s : St) (l h : Nat) : Stp s (s.numeral l h).2 := by
 unfold St.numeral; split
 ·
  exact stp_fail s 2 (by decide)
 ·
  split
  ·
   exact stp_fail s 5 (by decide)
  ·
   exact stp_adv s
theorem stp_number (s : St) (l h : Nat) : Stp s (s.number l h).2 := by
 unfold St.number; split
 ·
  exact (stp_adv s).trans (stp_numeral _ _ _)
 ·
  exact stp_numeral _ _ _
theorem stp_place (s : St) : Stp s s.place.2 := by
 unfold St.place; split
 ·
  exact ((stp_name s).trans (stp_adv _)).trans (stp_name _)
 ·
  exact stp_name s
structure Sk (k : Nat) : Prop where
 nod : ∀ kd s, Stp s (node k kd s).2
 pts : ∀ kd cs m s, Stp s (parts k kd cs m s).2
 prt : ∀ kd c m s, Stp s (part k kd c m s).2
 itm : ∀ m s, Stp s (items k m s).2
 stm : ∀ m s, Stp s (stmts k m s).2
 op : ∀ lv s, Stp s (ops k lv s).2
 mor : ∀ lv n s, Stp s (opsMore k lv n s).2
theorem sk_all : ∀ k, Sk k := by
 intro k
 induction k with
 | zero =>
  refine ⟨fun kd s => ?_, fun kd cs m s => ?_, fun kd c m s => ?_, fun m s => ?_, fun m s => ?_, fun lv s => ?_, fun lv n s => ?_⟩
  ·
   rw [node]; exact stp_fail s 9 (by decide)
  ·
   rw [parts]; exact stp_fail s 9 (by decide)
  ·
   rw [part]; exact stp_fail s 9 (by decide)
  ·
   rw [items]; exact stp_fail s 9 (by decide)
  ·
   rw [stmts]; exact stp_fail s 9 (by decide)
  ·
   rw [ops]; exact stp_fail s 9 (by decide)
  ·
   rw [opsMore]; exact stp_fail s 9 (by decide)
 | succ k ih =>
  refine ⟨fun kd s => ?_, fun kd cs m s => ?_, fun kd c m s => ?_, fun m s => ?_, fun m s => ?_, fun lv s => ?_, fun lv n s => ?_⟩
  ·
   rw [node]
   split
   ·
    exact ih.pts _ _ _ _
   ·
    exact (stp_expect _ _).trans (ih.pts _ _ _ _)
  ·
   cases cs with
   | nil => rw [parts]; exact Stp.refl s
   | cons c cs => rw [parts]; exact (ih.prt _ _ _ _).trans (ih.pts _ _ _ _)
  ·
   rw [part]
   split
   ·
    exact stp_name s
   split
   ·
    exact stp_loc s
   split
   ·
    exact stp_numeral _ _ _
   split
   ·
    exact stp_number _ _ _
   split
   ·
    exact ih.op _ _
   split
   ·
    exact ih.nod _ _
   split
   ·
    exact ih.nod _ _
   split
   ·
    exact stp_place s
   split
   ·
    split
    ·
     exact (stp_adv s).trans (ih.nod _ _)
    ·
     exact Stp.refl s
   split
   ·
    exact ih.itm _ _
   split
   ·
    exact ih.stm _ _
   ·
    exact stp_expect _ _
  ·
   rw [items]
   split
   ·
    exact (ih.nod _ _).trans (ih.itm _ _)
   ·
    exact Stp.refl s
  ·
   rw [stmts]
   split
   ·
    exact (ih.nod _ _).trans (ih.stm _ _)
   ·
    exact Stp.refl s
  ·
   rw [ops]
   split
   ·
    split
    ·
     exact ih.nod _ _
    split
    ·
     exact ih.nod _ _
    split
    ·
     exact ((stp_adv s).trans (ih.op _ _)).trans (stp_expect _ _)
    split
    ·
     exact ih.nod _ _
    ·
     exact stp_place s
   ·
    exact (ih.op _ _).trans (ih.mor _ _ _)
  ·
   rw [opsMore]
   split
   ·
    split
    ·
     exact (stp_adv s).trans (ih.op _ _)
    ·
     exact ((stp_adv s).trans (ih.op _ _)).trans (ih.mor _ _ _)
   ·
    exact Stp.refl s
structure Cor (k : Nat) : Prop where
 nod : ∀ kd s, kd < 37 → ¬ (26 ≤ kd ∧ kd ≤ 31) → kd ≠ 35 → Pr s → (node k kd s).2.e = 0 → (node k kd s).1.kind = (kd : Int) ∧ RT (node k kd s).1
 pts : ∀ kd cs m s, once cs = true → ((122 : UInt8) ∈ cs → (shape kd).low = 0) → Pr s → (parts k kd cs m s).2.e = 0 → PO kd cs m (parts k kd cs m s).1
 prt : ∀ kd c m s, (c = 122 → (shape kd).low = 0) → Pr s → (part k kd c m s).2.e = 0 → PO kd [c] m (part k kd c m s).1
 itm : ∀ m s, Pr s → (items k m s).2.e = 0 → ∃ l, (items k m s).1 = pushes m l ∧ ∀ x ∈ l, x.kind = 7 ∧ RT x
 stm : ∀ m s, Pr s → (stmts k m s).2.e = 0 → ∃ l, (stmts k m s).1 = pushes m l ∧ ∀ x ∈ l, 9 ≤ x.kind ∧ x.kind ≤ 25 ∧ RT x
 op : ∀ lv s, Pr s → 1 ≤ lv → (ops k lv s).2.e = 0 → isExpr (ops k lv s).1.kind ∧ RT (ops k lv s).1
 mor : ∀ lv n s, 1 ≤ lv → isExpr n.kind → RT n → Pr s → (opsMore k lv n s).2.e = 0 → isExpr (opsMore k lv n s).1.kind ∧ RT (opsMore k lv n s).1
theorem opOf_kind {t : Str} {lv : Nat} (h : (opOf t).1 = lv) (h0 : 1 ≤ lv) : 26 ≤ (opOf t).2 ∧ (opOf t).2 ≤ 31 := by
 unfold opOf at h ⊢
 split
 ·
  decide
 ·
  next h1 =>
  rw [if_neg h1] at h
  split
  ·
   decide
  ·
   next h2 =>
   rw [if_neg h2] at h
   split
   ·
    decide
   ·
    next h3 =>
    rw [if_neg h3] at h
    split
    ·
     decide
    ·
     next h4 =>
     rw [if_neg h4] at h
     split
     ·
      decide
     ·
      next h5 =>
      rw [if_neg h5] at h
      split
      ·
       decide
      ·
       next h6 => rw [if_neg h6] at h; dsimp only at h; omega
theorem rt_op {k : Int} {a b : Nd} (hk : 26 ≤ k ∧ k ≤ 31) (ha : isExpr a.kind) (hb : isExpr b.kind) (h1 : RT a) (h2 : RT b) : RT (.mk k [] 0 [a, b]) := by
 obtain ⟨d, hd⟩ := h1
 obtain ⟨e, he⟩ := h2
 refine ⟨max d e + 1, ?_⟩
 rw [rt, if_pos (by simp only [Nd.kind]; exact hk)]
 exact ⟨rfl, rfl, a, b, rfl, ha, hb, rt_le (by omega) hd, rt_le (by omega) he⟩
theorem stmt_kind (s : St) : s.stmtHere = -1 ∨ (9 ≤ s.stmtHere ∧ s.stmtHere ≤ 25) := by
 unfold St.stmtHere
 split
 ·
  right; decide
 ·
  split
  ·
   right; decide
  ·
   unfold St.kindHere
   split
   ·
    split
    ·
     next h => right; omega
    ·
     left; rfl
   ·
    left; rfl
theorem kid_of {c : UInt8} {x : Nd} (h : (c = 69 ∧ isExpr x.kind) ∨ (c = 66 ∧ x.kind = 8) ∨ (c = 76 ∧ x.kind = 33) ∨ (c = 80 ∧ (x.kind = 34 ∨ x.kind = 35)) ∨ (c = 79 ∧ x.kind = 8)) (hr : RT x) : kidsOk RT [c] [x] := by
 rcases h with ⟨rfl, h⟩ | ⟨rfl, h⟩ | ⟨rfl, h⟩ | ⟨rfl, h⟩ | ⟨rfl, h⟩
 ·
  rw [kidsOk, if_pos rfl]; exact ⟨x, [], rfl, h, hr, rfl⟩
 ·
  rw [kidsOk, if_neg (by decide), if_pos rfl]; exact ⟨x, [], rfl, h, hr, rfl⟩
 ·
  rw [kidsOk, if_neg (by decide), if_neg (by decide), if_pos rfl]; exact ⟨x, [], rfl, h, hr, rfl⟩
 ·
  rw [kidsOk, if_neg (by decide), if_neg (by decide), if_neg (by decide), if_pos rfl]; exact ⟨x, [], rfl, h, hr, rfl⟩
 ·
  rw [kidsOk, if_neg (by decide), if_neg (by decide), if_neg (by decide), if_neg (by decide), if_pos rfl]; exact Or.inr ⟨x, [], rfl, h, hr, rfl⟩
theorem cor_all : ∀ k, Cor k := by
 intro k
 induction k with
 | zero =>
  refine ⟨fun kd s _ _ _ _ h => ?_, fun kd cs m s _ _ _ h => ?_, fun kd c m s _ _ h => ?_, fun m s _ h => ?_, fun m s _ h => ?_, fun lv s _ _ h => ?_, fun lv n s _ _ _ _ h => ?_⟩
  ·
   rw [node] at h; exact absurd h (fail_e (by decide))
  ·
   rw [parts] at h; exact absurd h (fail_e (by decide))
  ·
   rw [part] at h; exact absurd h (fail_e (by decide))
  ·
   rw [items] at h; exact absurd h (fail_e (by decide))
  ·
   rw [stmts] at h; exact absurd h (fail_e (by decide))
  ·
   rw [ops] at h; exact absurd h (fail_e (by decide))
  ·
   rw [opsMore] at h; exact absurd h (fail_e (by decide))
 | succ k ih =>
  have sk := sk_all k
  refine ⟨fun kd s hk hop h35 hp h => ?_, fun kd cs m s ho hz hp h => ?_, fun kd c m s hz hp h => ?_, fun m s hp h => ?_, fun m s hp h => ?_, fun lv s hp h1 h => ?_, fun lv n s h1 hn hr hp h => ?_⟩
  ·
   rw [node] at h ⊢
   obtain ⟨f1, _, _⟩ := shape_facts kd hk
   by_cases hw : (shape kd).word = []
   ·
    rw [if_pos hw] at h ⊢
    exact po_right hk hop h35 (ih.pts kd _ _ s (shapes_once kd hk) (fun h => (f1 h).1) hp h)
   ·
    rw [if_neg hw] at h ⊢
    exact po_right hk hop h35 (ih.pts kd _ _ _ (shapes_once kd hk) (fun h => (f1 h).1) ((stp_expect s _).pr hp) h)
  ·
   cases cs with
   | nil =>
    rw [parts] at h ⊢
    exact ⟨rfl, rfl, rfl, [], by simp, rfl⟩
   | cons c cs =>
    rw [parts] at h ⊢
    have ho' : once cs = true := by rw [once] at ho; simp only [Bool.and_eq_true] at ho; exact ho.2
    have c' := ih.pts kd cs _ _ ho' (fun h => hz (List.mem_cons_of_mem _ h)) ((sk.prt kd c m s).pr hp) h
    have c1 := ih.prt kd c m s (fun e => hz (by rw [e]; exact List.mem_cons_self)) hp ((sk.pts kd cs _ _).er h)
    exact po_join ho c1 c'
  ·
   rw [part] at h ⊢
   by_cases c1 : c = 110
   ·
    subst c1; rw [if_pos rfl] at h ⊢; exact po_text (name_ok hp h).2.2
   rw [if_neg c1] at h ⊢
   by_cases c2 : c = 108
   ·
    subst c2; rw [if_pos rfl] at h ⊢; exact po_loc (loc_ok hp h).2.2
   rw [if_neg c2] at h ⊢
   by_cases c3 : c = 100
   ·
    subst c3; rw [if_pos rfl] at h ⊢; exact po_num (numeral_ok hp h).2.2
   rw [if_neg c3] at h ⊢
   by_cases c4 : c = 122
   ·
    subst c4; rw [if_pos rfl] at h ⊢
    rw [hz rfl] at h ⊢
    exact po_zed (number_ok hp h).2.2
   rw [if_neg c4] at h ⊢
   have kid : ∀ x, kidsOk RT [c] [x] → PO kd [c] m (m.push x) := fun x hx => by rw [push_one]; exact po_of ⟨c1, c2, c3, c4⟩ hx
   by_cases c5 : c = 69
   ·
    rw [if_pos c5] at h ⊢
    obtain ⟨a, b⟩ := ih.op 1 s hp (Nat.le_refl _) h
    exact kid _ (kid_of (Or.inl ⟨c5, a⟩) b)
   rw [if_neg c5] at h ⊢
   by_cases c6 : c = 66
   ·
    rw [if_pos c6] at h ⊢
    obtain ⟨a, b⟩ := ih.nod 8 s (by decide) (by decide) (by decide) hp h
    exact kid _ (kid_of (Or.inr (Or.inl ⟨c6, a⟩)) b)
   rw [if_neg c6] at h ⊢
   by_cases c7 : c = 76
   ·
    rw [if_pos c7] at h ⊢
    obtain ⟨a, b⟩ := ih.nod 33 s (by decide) (by decide) (by decide) hp h
    exact kid _ (kid_of (Or.inr (Or.inr (Or.inl ⟨c7, a⟩))) b)
   rw [if_neg c7] at h ⊢
   by_cases c8 : c = 80
   ·
    rw [if_pos c8] at h ⊢
    obtain ⟨_, _, a, b⟩ := place_ok hp h
    exact kid _ (kid_of (Or.inr (Or.inr (Or.inr (Or.inl ⟨c8, a⟩)))) b)
   rw [if_neg c8] at h ⊢
   by_cases c9 : c = 79
   ·
    rw [if_pos c9] at h ⊢
    split at h
    ·
     next hl =>
     rw [if_pos hl]
     obtain ⟨a, b⟩ := ih.nod 8 s.adv (by decide) (by decide) (by decide) hp.adv h
     exact kid _ (kid_of (Or.inr (Or.inr (Or.inr (Or.inr ⟨c9, a⟩)))) b)
    ·
     next hl =>
     rw [if_neg hl]
     have := po_of (kd := kd) (m := m) (l := []) ⟨c1, c2, c3, c4⟩ (by rw [kidsOk, if_neg c5, if_neg c6, if_neg c7, if_neg c8, if_pos c9]; exact Or.inl ⟨rfl, rfl⟩)
     rw [pushes_nil] at this; exact this
   rw [if_neg c9] at h ⊢
   by_cases c10 : c = 73
   ·
    rw [if_pos c10] at h ⊢
    obtain ⟨l, e, hl⟩ := ih.itm m s hp h
    rw [e]
    exact po_of ⟨c1, c2, c3, c4⟩ (by rw [kidsOk, if_neg c5, if_neg c6, if_neg c7, if_neg c8, if_neg c9, if_pos c10]; exact ⟨hl, rfl⟩)
   rw [if_neg c10] at h ⊢
   by_cases c11 : c = 83
   ·
    rw [if_pos c11] at h ⊢
    obtain ⟨l, e, hl⟩ := ih.stm m s hp h
    rw [e]
    exact po_of ⟨c1, c2, c3, c4⟩ (by rw [kidsOk, if_neg c5, if_neg c6, if_neg c7, if_neg c8, if_neg c9, if_neg c10, if_pos c11]; exact ⟨hl, rfl⟩)
   rw [if_neg c11]
   have := po_of (kd := kd) (m := m) (l := []) ⟨c1, c2, c3, c4⟩ (by rw [kidsOk, if_neg c5, if_neg c6, if_neg c7, if_neg c8, if_neg c9, if_neg c10, if_neg c11]; rfl)
   rw [pushes_nil] at this; exact this
  ·
   rw [items] at h ⊢
   by_cases hc : cls s.look = 3
   ·
    rw [if_pos hc] at h ⊢
    have sn := sk.nod 7 s
    obtain ⟨l, e, hl⟩ := ih.itm _ _ (sn.pr hp) h
    obtain ⟨a, b⟩ := ih.nod 7 s (by decide) (by decide) (by decide) hp ((sk.itm _ _).er h)
    refine ⟨(node k 7 s).1 :: l, by rw [e, push_one, pushes_app]; rfl, fun x hx => ?_⟩
    rcases List.mem_cons.1 hx with rfl | hx
    ·
     exact ⟨a, b⟩
    ·
     exact hl x hx
   ·
    rw [if_neg hc]; exact ⟨[], (pushes_nil m).symm, fun x hx => by cases hx⟩
  ·
   rw [stmts] at h ⊢
   by_cases hc : s.stmtHere ≠ -1
   ·
    rw [if_pos hc] at h ⊢
    have hk := (stmt_kind s).resolve_left hc
    have sn := sk.nod s.stmtHere.toNat s
    obtain ⟨l, e, hl⟩ := ih.stm _ _ (sn.pr hp) h
    obtain ⟨a, b⟩ := ih.nod s.stmtHere.toNat s (by omega) (by omega) (by omega) hp ((sk.stm _ _).er h)
    refine ⟨(node k s.stmtHere.toNat s).1 :: l, by rw [e, push_one, pushes_app]; rfl, fun x hx => ?_⟩
    rcases List.mem_cons.1 hx with rfl | hx
    ·
     exact ⟨by omega, by omega, b⟩
    ·
     exact hl x hx
   ·
    rw [if_neg hc]; exact ⟨[], (pushes_nil m).symm, fun x hx => by cases hx⟩
  ·
   rw [ops] at h ⊢
   by_cases h4 : lv = 4
   ·
    rw [if_pos h4] at h ⊢
    by_cases g1 : cls s.look = 4
    ·
     rw [if_pos g1] at h ⊢
     obtain ⟨a, b⟩ := ih.nod 32 s (by decide) (by decide) (by decide) hp h
     exact ⟨by rw [a]; exact ⟨by decide, by decide⟩, b⟩
    rw [if_neg g1] at h ⊢
    by_cases g2 : cls s.look = 5
    ·
     rw [if_pos g2] at h ⊢
     obtain ⟨a, b⟩ := ih.nod 33 s (by decide) (by decide) (by decide) hp h
     exact ⟨by rw [a]; exact ⟨by decide, by decide⟩, b⟩
    rw [if_neg g2] at h ⊢
    by_cases g3 : s.look = [40]
    ·
     rw [if_pos g3] at h ⊢
     exact ih.op 1 s.adv hp.adv (Nat.le_refl _) ((stp_expect _ _).er h)
    rw [if_neg g3] at h ⊢
    by_cases g4 : s.kindHere 36 36 = 36
    ·
     rw [if_pos g4] at h ⊢
     obtain ⟨a, b⟩ := ih.nod 36 s (by decide) (by decide) (by decide) hp h
     exact ⟨by rw [a]; exact ⟨by decide, by decide⟩, b⟩
    rw [if_neg g4] at h ⊢
    obtain ⟨_, _, a, b⟩ := place_ok hp h
    exact ⟨by unfold isExpr; omega, b⟩
   ·
    rw [if_neg h4] at h ⊢
    obtain ⟨a, b⟩ := ih.op (lv + 1) s hp (by omega) ((sk.mor _ _ _).er h)
    exact ih.mor lv _ _ h1 a b ((sk.op _ _).pr hp) h
  ·
   rw [opsMore] at h ⊢
   by_cases hl : (opOf s.look).1 = lv
   ·
    rw [if_pos hl] at h ⊢
    have hk := opOf_kind hl h1
    by_cases h11 : lv = 1
    ·
     rw [if_pos h11] at h ⊢
     obtain ⟨a, b⟩ := ih.op (lv + 1) s.adv hp.adv (by omega) h
     exact ⟨by show isExpr (opOf s.look).2; unfold isExpr; omega, rt_op hk hn a hr b⟩
    ·
     rw [if_neg h11] at h ⊢
     obtain ⟨a, b⟩ := ih.op (lv + 1) s.adv hp.adv (by omega) ((sk.mor _ _ _).er h)
     exact ih.mor lv _ _ h1 (by show isExpr (opOf s.look).2; unfold isExpr; omega) (rt_op hk hn a hr b) ((sk.op _ _).pr hp.adv) h
   ·
    rw [if_neg hl]; exact ⟨hn, hr⟩
theorem read_is_right {k : Nat} {s : St} (hp : Pr s) (h : (rdDef k s).2.e = 0) : 0 ≤ (rdDef k s).1.kind ∧ (rdDef k s).1.kind ≤ 6 ∧ RT (rdDef k s).1 := by
 unfold rdDef at h ⊢
 by_cases hk : s.kindHere 0 6 = -1
 ·
  rw [if_pos hk] at h; exact absurd h (fail_e (by decide))
 ·
  rw [if_neg hk] at h ⊢
  have hb : 0 ≤ s.kindHere 0 6 ∧ s.kindHere 0 6 ≤ 6 := by
   unfold St.kindHere at hk ⊢
   split at hk
   ·
    next k he =>
    split at hk
    ·
     next hc => rw [if_pos hc]; exact ⟨hc.2.1, hc.2.2⟩
    ·
     exact absurd rfl hk
   ·
    exact absurd rfl hk
  obtain ⟨a, b⟩ := (cor_all k).nod (s.kindHere 0 6).toNat s (by omega) (by omega) (by omega) hp h
  exact ⟨by rw [a]; omega, by rw [a]; omega, b⟩
/-! What the package calls valid. -/
theorem wnode_stuck (d : Nat) (n : Nd) (w : Wr) (h : w.bad = true) : (wNode d n w).bad = true := by
 cases d with
 | zero => rw [wNode]
 | succ d =>
  rw [wNode]
  split
  ·
   rfl
  ·
   exact h
def Stuck (f : Wr → Wr) : Prop := ∀ w, w.bad = true → (f w).bad = true
theorem wkids_stuck (f : Nd → Wr → Wr) : ∀ l, Stuck (wKids f l) := by
 intro l
 cases l with
 | nil => intro w h; exact h
 | cons x l => intro w h; rw [wKids, if_pos h]; exact h
theorem wpart_stuck {f : Nd → Wr → Wr} (hf : ∀ x, Stuck (f x)) (n : Nd) (c : UInt8) (l : List Nd) : Stuck (fun w => (wPart f n c l w).2) := by
 intro w h
 unfold wPart
 dsimp only
 split
 ·
  exact put_bad h _
 split
 ·
  exact put_bad h _
 split
 ·
  exact put_bad h _
 split
 ·
  split
  ·
   rfl
  ·
   exact hf _ w h
 split
 ·
  split
  ·
   exact h
  ·
   exact hf _ _ (put_bad h _)
 split
 ·
  exact wkids_stuck f l w h
 ·
  exact put_bad h _
theorem wparts_stuck {f : Nd → Wr → Wr} (hf : ∀ x, Stuck (f x)) (n : Nd) : ∀ cs l, Stuck (wParts f n cs l) := by
 intro cs
 induction cs with
 | nil => intro l w h; exact h
 | cons c cs ih => intro l w h; rw [wParts]; exact ih _ _ (wpart_stuck hf n c l w h)
theorem woper_stuck {f : Nd → Wr → Wr} (hf : ∀ x, Stuck (f x)) (n : Nd) (least : Nat) : Stuck (wOperand f n least) := by
 intro w h
 unfold wOperand
 split
 ·
  exact hf n w h
 ·
  exact put_bad (hf n _ (put_bad h _)) _
theorem fine {f : Wr → Wr} (hf : Stuck f) {w : Wr} (h : (f w).bad = false) : w.bad = false := by
 cases hb : w.bad with
 | false => rfl
 | true => rw [hf w hb] at h; cases h
theorem wkids_depth {d : Nat} {P : Nd → Prop} (hr : ∀ x w, P x → (wNode d x w).bad = false → rt d x) : ∀ (l : List Nd) (w : Wr), (∀ x ∈ l, P x) → (wKids (wNode d) l w).bad = false → ∀ x ∈ l, rt d x := by
 intro l
 induction l with
 | nil => intro w _ _ x hx; cases hx
 | cons y l ih =>
  intro w hp h x hx
  rw [wKids] at h
  by_cases hb : w.bad = true
  ·
   rw [if_pos hb, hb] at h; cases h
  ·
   rw [if_neg hb] at h
   have h1 := fine (wkids_stuck (wNode d) l) h
   rcases List.mem_cons.1 hx with rfl | hx
   ·
    exact hr _ _ (hp _ List.mem_cons_self) h1
   ·
    exact ih _ (fun z hz => hp z (List.mem_cons_of_mem _ hz)) h x hx
theorem wparts_depth {d : Nat} {P : Nd → Prop} (n : Nd) (hr : ∀ x w, P x → (wNode d x w).bad = false → rt d x) : ∀ (cs : Str) (l : List Nd) (w : Wr), kidsOk P cs l → (wParts (wNode d) n cs l w).bad = false → kidsOk (rt d) cs l := by
 intro cs
 induction cs with
 | nil => intro l w h _; exact h
 | cons c cs ih =>
  intro l w hk h
  rw [wParts] at h
  have hs := fine (wparts_stuck (wnode_stuck d) n cs _) h
  rw [kidsOk] at hk ⊢
  have kid : ∀ x l', l = x :: l' → (c = 69 ∨ c = 66 ∨ c = 76 ∨ c = 80) → P x → kidsOk P cs l' → rt d x ∧ kidsOk (rt d) cs l' := by
   intro x l' e hc hp hk'
   subst e
   have e1 : wPart (wNode d) n c (x :: l') w = (l', wNode d x w) := by
    unfold wPart
    rw [if_neg (by rintro rfl; rcases hc with h | h | h | h <;> cases h), if_neg (by rintro rfl; rcases hc with h | h | h | h <;> cases h), if_neg (by rintro (rfl | rfl) <;> rcases hc with h | h | h | h <;> cases h), if_pos hc]
   rw [e1] at h hs
   exact ⟨hr x w hp hs, ih l' _ hk' h⟩
  by_cases c5 : c = 69
  ·
   rw [if_pos c5] at hk ⊢
   obtain ⟨x, l', e, b, p, q⟩ := hk
   obtain ⟨u, v⟩ := kid x l' e (Or.inl c5) p q
   exact ⟨x, l', e, b, u, v⟩
  rw [if_neg c5] at hk ⊢
  by_cases c6 : c = 66
  ·
   rw [if_pos c6] at hk ⊢
   obtain ⟨x, l', e, b, p, q⟩ := hk
   obtain ⟨u, v⟩ := kid x l' e (Or.inr (Or.inl c6)) p q
   exact ⟨x, l', e, b, u, v⟩
  rw [if_neg c6] at hk ⊢
  by_cases c7 : c = 76
  ·
   rw [if_pos c7] at hk ⊢
   obtain ⟨x, l', e, b, p, q⟩ := hk
   obtain ⟨u, v⟩ := kid x l' e (Or.inr (Or.inr (Or.inl c7))) p q
   exact ⟨x, l', e, b, u, v⟩
  rw [if_neg c7] at hk ⊢
  by_cases c8 : c = 80
  ·
   rw [if_pos c8] at hk ⊢
   obtain ⟨x, l', e, b, p, q⟩ := hk
   obtain ⟨u, v⟩ := kid x l' e (Or.inr (Or.inr (Or.inr c8))) p q
   exact ⟨x, l', e, b, u, v⟩
  rw [if_neg c8] at hk ⊢
  by_cases c9 : c = 79
  ·
   rw [if_pos c9] at hk ⊢
   subst c9
   rcases hk with ⟨rfl, q⟩ | ⟨x, l', rfl, b, p, q⟩
   ·
    have e1 : wPart (wNode d) n 79 [] w = ([], w) := by
     unfold wPart; rw [if_neg (by decide), if_neg (by decide), if_neg (by decide), if_neg (by decide), if_pos rfl]
    rw [e1] at h
    exact Or.inl ⟨rfl, ih [] _ q h⟩
   ·
    have e1 : wPart (wNode d) n 79 (x :: l') w = (l', wNode d x (w.put wElse)) := by
     unfold wPart; rw [if_neg (by decide), if_neg (by decide), if_neg (by decide), if_neg (by decide), if_pos rfl]
    rw [e1] at h hs
    exact Or.inr ⟨x, l', rfl, b, hr x _ p hs, ih l' _ q h⟩
  rw [if_neg c9] at hk ⊢
  by_cases c10 : c = 73
  ·
   rw [if_pos c10] at hk ⊢
   subst c10
   have e1 : wPart (wNode d) n 73 l w = ([], wKids (wNode d) l w) := by
    unfold wPart; rw [if_neg (by decide), if_neg (by decide), if_neg (by decide), if_neg (by decide), if_neg (by decide), if_pos (by decide)]
   rw [e1] at h hs
   have := wkids_depth hr l w (fun x hx => (hk.1 x hx).2) hs
   exact ⟨fun x hx => ⟨(hk.1 x hx).1, this x hx⟩, ih [] _ hk.2 h⟩
  rw [if_neg c10] at hk ⊢
  by_cases c11 : c = 83
  ·
   rw [if_pos c11] at hk ⊢
   subst c11
   have e1 : wPart (wNode d) n 83 l w = ([], wKids (wNode d) l w) := by
    unfold wPart; rw [if_neg (by decide), if_neg (by decide), if_neg (by decide), if_neg (by decide), if_neg (by decide), if_pos (by decide)]
   rw [e1] at h hs
   have := wkids_depth hr l w (fun x hx => (hk.1 x hx).2.2) hs
   exact ⟨fun x hx => ⟨(hk.1 x hx).1, (hk.1 x hx).2.1, this x hx⟩, ih [] _ hk.2 h⟩
  rw [if_neg c11] at hk ⊢
  have e1 : (wPart (wNode d) n c l w).1 = l := by
   unfold wPart
   split
   ·
    rfl
   split
   ·
    rfl
   split
   ·
    rfl
   have cn : ¬ (c = 69 ∨ c = 66 ∨ c = 76 ∨ c = 80) := by rintro (h | h | h | h); exact c5 h; exact c6 h; exact c7 h; exact c8 h
   have cm : ¬ (c = 73 ∨ c = 83) := by rintro (h | h); exact c10 h; exact c11 h
   simp [c5, c6, c7, c8, c9, c10, c11]
  rw [e1] at h
  exact ih l _ hk h
theorem write_depth : ∀ (d D : Nat) (x : Nd) (w : Wr), rt D x → (wNode d x w).bad = false → rt d x := by
 intro d
 induction d with
 | zero => intro D x w _ h; rw [wNode] at h; cases h
 | succ d ih =>
  intro D x w hx h
  obtain ⟨e, rfl⟩ := rt_pos hx
  have hkr : 0 ≤ x.kind ∧ x.kind < 37 := by
   by_cases hop : 26 ≤ x.kind ∧ x.kind ≤ 31
   ·
    omega
   ·
    have := rt_leaf hx hop; exact ⟨this.1, this.2.1⟩
  have hw : ¬ w.bad = true := by
   intro hb; rw [wnode_stuck (d + 1) x w hb] at h; cases h
  rw [wNode, if_neg (by omega), if_neg hw] at h
  by_cases hop : 26 ≤ x.kind ∧ x.kind ≤ 31
  ·
   have h' := hx
   unfold rt at h'
   rw [if_pos hop] at h'
   obtain ⟨a1, a2, a, b, a3, a4, a5, a6, a7⟩ := h'
   have hs : (signOf x.kind).1 ≠ 0 := by
    rcases (show x.kind = 26 ∨ x.kind = 27 ∨ x.kind = 28 ∨ x.kind = 29 ∨ x.kind = 30 ∨ x.kind = 31 by omega) with e | e | e | e | e | e <;> rw [e] <;> decide
   rw [if_pos hs, a3] at h
   dsimp only at h
   have opr : ∀ y least v, rt e y → (wOperand (wNode d) y least v).bad = false → rt d y := by
    intro y least v hy hb
    unfold wOperand at hb
    split at hb
    ·
     exact ih e y v hy hb
    ·
     exact ih e y _ hy (fine (f := fun w => w.put [41]) (fun w h => put_bad h _) hb)
   have hb1 := fine (f := fun v => wOperand (wNode d) b ((signOf x.kind).1 + 1) v) (woper_stuck (wnode_stuck d) b _) h
   have hb2 := fine (f := fun v : Wr => v.put (signOf x.kind).2) (fun w h => put_bad h _) hb1
   rw [rt, if_pos hop]
   exact ⟨a1, a2, a, b, a3, a4, a5, opr a _ _ a6 hb2, opr b _ _ a7 h⟩
  ·
   obtain ⟨a1, a2, a3, a4, a5⟩ := rt_leaf hx hop
   rw [if_neg (by rw [sign_leaf hop]; simp)] at h
   rw [rt, if_neg hop]
   exact ⟨a1, a2, a3, a4, wparts_depth x (fun y v hy hb => ih e y v hy hb) _ _ _ a5 h⟩
theorem tw_idem (p : UInt8 → Bool) (l : Str) : (l.takeWhile p).takeWhile p = l.takeWhile p := by
 have := take_w (p := p) (u := l.takeWhile p) (s := []) (fun x hx => List.all_eq_true.1 (List.all_takeWhile (l := l) (p := p)) x hx) (fun b hb => by cases hb)
 rw [List.append_nil] at this; exact this
theorem tw_take (p : UInt8 → Bool) (l : Str) : l.take (l.takeWhile p).length = l.takeWhile p := (List.prefix_iff_eq_take.1 (List.takeWhile_prefix p)).symm
theorem word_take (l : Str) (h : wordLen l ≠ 0) : wordLen (l.take (wordLen l)) = wordLen l ∧ (l.take (wordLen l)).length = wordLen l := by
 cases l with
 | nil => exact absurd rfl h
 | cons b t =>
  rw [wordLen] at h ⊢
  by_cases hc : isL b = true ∧ (t.takeWhile isW).length + 1 ≤ 16
  ·
   rw [if_pos hc, List.take_succ_cons, tw_take, wordLen, tw_idem, if_pos hc]
   exact ⟨rfl, rfl⟩
  ·
   rw [if_neg hc] at h; exact absurd rfl h
theorem tok_take (l : Str) (h : tokLen l ≠ 0) : tokLen (l.take (tokLen l)) = tokLen l ∧ (l.take (tokLen l)).length = tokLen l := by
 cases l with
 | nil => exact absurd rfl h
 | cons b t =>
  by_cases h1 : isL b = true
  ·
   have e : tokLen (b :: t) = wordLen (b :: t) := by rw [tokLen, if_pos h1]
   rw [e] at h ⊢
   obtain ⟨a, c⟩ := word_take _ h
   refine ⟨?_, c⟩
   obtain ⟨m, hm⟩ : ∃ m, wordLen (b :: t) = m + 1 := ⟨wordLen (b :: t) - 1, by omega⟩
   rw [hm, List.take_succ_cons] at a ⊢
   rw [tokLen, if_pos h1]; exact a
  by_cases h2 : isD b = true
  ·
   have e : tokLen (b :: t) = numLen (b :: t) := by rw [tokLen, if_neg h1, if_pos h2]
   rw [e] at h ⊢
   unfold numLen at h ⊢
   by_cases hc : ((b :: t).takeWhile isD).length ≤ 3
   ·
    rw [if_pos hc, tw_take]
    have et : (b :: t).takeWhile isD = b :: t.takeWhile isD := by rw [List.takeWhile_cons, if_pos h2]
    refine ⟨?_, rfl⟩
    rw [et, tokLen, if_neg h1, if_pos h2]
    unfold numLen
    rw [← et, tw_idem, if_pos hc]
   ·
    rw [if_neg hc] at h; exact absurd rfl h
  by_cases h3 : b = 36
  ·
   subst h3
   have e : tokLen (36 :: t) = if wordLen t = 0 then 0 else wordLen t + 1 := by rw [tokLen, if_neg h1, if_neg h2, if_pos rfl]
   rw [e] at h ⊢
   by_cases hw : wordLen t = 0
   ·
    rw [if_pos hw] at h; exact absurd rfl h
   ·
    rw [if_neg hw, List.take_succ_cons]
    obtain ⟨a, c⟩ := word_take t hw
    refine ⟨?_, by rw [List.length_cons, c]⟩
    rw [tokLen, if_neg h1, if_neg h2, if_pos rfl, a, if_neg hw]
  by_cases h4 : b = 60 ∨ b = 61
  ·
   have e : tokLen (b :: t) = if t.head? = some 61 then 2 else 1 := by rw [tokLen, if_neg h1, if_neg h2, if_neg h3, if_pos h4]
   rw [e]
   by_cases hh : t.head? = some 61
   ·
    obtain ⟨u, rfl⟩ : ∃ u, t = 61 :: u := by
     cases t with
     | nil => cases hh
     | cons x u => exact ⟨u, by rw [Option.some.inj hh]⟩
    rw [if_pos hh]
    refine ⟨?_, rfl⟩
    show tokLen [b, 61] = 2
    rw [tokLen, if_neg h1, if_neg h2, if_neg h3, if_pos h4, if_pos (show ([61] : Str).head? = some 61 from rfl)]
   ·
    rw [if_neg hh]
    refine ⟨?_, rfl⟩
    show tokLen [b] = 1
    rw [tokLen, if_neg h1, if_neg h2, if_neg h3, if_pos h4, if_neg (by simp)]
  ·
   have e : tokLen (b :: t) = if isS b = true then 1 else 0 := by rw [tokLen, if_neg h1, if_neg h2, if_neg h3, if_neg h4]
   rw [e] at h ⊢
   by_cases hs : isS b = true
   ·
    rw [if_pos hs]
    refine ⟨?_, rfl⟩
    show tokLen [b] = 1
    rw [tokLen, if_neg h1, if_neg h2, if_neg h3, if_neg h4, if_pos hs]
   ·
    rw [if_neg hs] at h; exact absurd rfl h
theorem lex_proper : ∀ (k : Nat) (l : Str) (i : Nat), ∀ t ∈ (lex k l i).1, tokLen t.1 = t.1.length ∧ t.1 ≠ [] := by
 intro k
 induction k with
 | zero => intro l i t ht; cases ht
 | succ k ih =>
  intro l i t ht
  cases l with
  | nil => cases ht
  | cons b u =>
   rw [lex] at ht
   by_cases hb : isBlank b = true
   ·
    rw [if_pos hb] at ht; exact ih _ _ t ht
   ·
    rw [if_neg hb] at ht
    by_cases h0 : tokLen (b :: u) = 0
    ·
     rw [if_pos h0] at ht; cases ht
    ·
     rw [if_neg h0] at ht
     rcases List.mem_cons.1 ht with rfl | ht
     ·
      obtain ⟨a, c⟩ := tok_take _ h0
      refine ⟨by dsimp only; rw [a, c], fun e => ?_⟩
      dsimp only at e
      rw [e] at c; exact h0 c.symm
     ·
      exact ih _ _ t ht
def vDef (n : Nd) : Prop := 0 ≤ n.kind ∧ n.kind ≤ 6 ∧ rt 24 n ∧ (txt 24 n).length ≤ 1024
def RdOk (l : Str) (n : Nd) : Prop := (LX l 0).2 = l.length ∧ Ev (fun k => rdDef k (S (LX l 0).1)) (n, S [])
theorem valid_iff (n : Nd) : vDef n ↔ (wNode 24 n ⟨[], false⟩).bad = false ∧ RdOk (wNode 24 n ⟨[], false⟩).text n := by
 constructor
 ·
  rintro ⟨h1, h2, h3, h4⟩
  have hw := (write_right h3).1 h4
  obtain ⟨ts, e1, e2⟩ := read_right h3 ⟨h1, h2⟩
  rw [hw]
  refine ⟨rfl, ?_, ?_⟩
  ·
   show (LX (txt 24 n) 0).2 = _; rw [e1]
  ·
   show Ev (fun k => rdDef k (S (LX (txt 24 n) 0).1)) _; rw [e1]; exact e2
 ·
  rintro ⟨hb, hl, K, hK⟩
  have hr : rdDef K (S (LX (wNode 24 n ⟨[], false⟩).text 0).1) = (n, S []) := hK K (Nat.le_refl _)
  have hp : Pr (S (LX (wNode 24 n ⟨[], false⟩).text 0).1) := fun t ht => lex_proper _ _ _ t ht
  obtain ⟨a, b, D, hD⟩ := read_is_right (k := K) hp (by rw [hr]; rfl)
  rw [hr] at a b hD
  have h24 := write_depth 24 D n _ hD hb
  refine ⟨a, b, h24, ?_⟩
  rcases Nat.lt_or_ge 1024 (txt 24 n).length with h | h
  ·
   rw [(write_right h24).2 h] at hb; cases hb
  ·
   exact h
end Src
end Go.Proofs.YtpbhgebblpdmnaaDoor
