/-
  Short words for the walk of a drawn region.
  No condition.
-/
import Derived.WalkKit
import Derived.Deep.RegionHeld
import Derived.Lib.Hide
namespace Go.Proofs.YtofccgkgjcnfbaaDoor
open Go.RowKit
set_option linter.unusedVariables false
theorem Lh {p : Prop} (h : p) : Hid p := Lib.hid h
theorem zn (a : Act) (v : Value) : Act.put a none v = a := rfl
theorem zp (t : Array Value) (d : _) (i : Nat) (v : Value) : Act.put (Act.mk t d) (some i) v = Act.mk (t.setIfInBounds i v) d := rfl
theorem z1 {α : Type} (l : List α) (i : Nat) (a : α) : l.toArray.setIfInBounds i a = (l.set i a).toArray := List.setIfInBounds_toArray l i a
theorem z2 {α : Type} (x : α) (l : List α) (a : α) : (x :: l).set 0 a = a :: l := rfl
theorem z3 {α : Type} (x : α) (l : List α) (n : Nat) (a : α) : (x :: l).set (n + 1) a = x :: l.set n a := rfl
abbrev dD (n : Nat) : Edge := { on := n, ground := Ground.data }
abbrev dP (n : Nat) : Edge := { on := n, ground := Ground.phase }
abbrev dC (n : Nat) : Edge := { on := n, ground := Ground.chain }
abbrev dT (n : Nat) : Edge := { on := n, ground := Ground.textOnly Departure.lateStores }
abbrev dG (n : Nat) : Edge := { on := n, ground := Ground.gcOnly Departure.lateStores }
theorem tk {P : Program} {md : Region.Mode} {ops : Array Oper} {Q : Exit → Act → World → Prop} {fuel : Nat} {listed : Array Bool} {a : Act} {w : World} (i : Nat) (oi : Oper) (v : Value) (hy : ∀ W, (execOp a.eval oi).run P W = .ok (.value v) W)
 (h : wpAny P md ops Q fuel (listed.setIfInBounds i true) (a.put oi.dst v) w) (hi : ops[i]? = some oi := by rfl) (hs : Region.noSelect ops = true := by kernel_rfl) (hf : Region.free md ops listed i = true := by kernel_rfl)
 (hr : (Region.ready md ops listed).contains i = true := by kernel_rfl) (hQ : ∀ c a w, Q (.panic c) (a.put oi.dst v) w → Q (.panic c) a w := by exact fun _ _ _ h => h) (hw : Region.wanted oi (yielded ops a.tmps) = true := by rfl) :
 wpAny P md ops Q (fuel + 1) listed a w := wpAny_take hi hs hf hr hQ (Or.inl ⟨hw, hy⟩) h
theorem tkH {P : Program} {md : Region.Mode} {ops : Array Oper} {Q : Exit → Act → World → Prop} {S : World → Prop} {fuel : Nat} {listed : Array Bool} {a : Act} {w : World} (i : Nat) (oi : Oper) (v : Value) (hS : S w) (hy : ∀ W, S W → (execOp a.eval oi).run P W = .ok (.value v) W)
 (h : wpAnyH P md ops Q S fuel (listed.setIfInBounds i true) (a.put oi.dst v) w) (hi : ops[i]? = some oi := by rfl) (hs : Region.noSelect ops = true := by kernel_rfl) (hf : Region.free md ops listed i = true := by kernel_rfl)
 (hr : (Region.ready md ops listed).contains i = true := by kernel_rfl) (hQ : ∀ c a w, Q (.panic c) (a.put oi.dst v) w → Q (.panic c) a w := by exact fun _ _ _ h => h) (hw : Region.wanted oi (yielded ops a.tmps) = true := by rfl) :
 wpAnyH P md ops Q S (fuel + 1) listed a w := wpAnyH_take hi hs hf hr hQ (Or.inl ⟨hw, hy⟩) hS h
end Go.Proofs.YtofccgkgjcnfbaaDoor
