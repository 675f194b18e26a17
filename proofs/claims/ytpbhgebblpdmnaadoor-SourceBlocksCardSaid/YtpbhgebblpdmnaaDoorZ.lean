/-
  Short words for the walk of a drawn region.
  No condition.
-/
import Derived.OrdersHeld
import Derived.Orders
import Derived.WalkKit
import Derived.Deep.RegionHeld
import Derived.Lib.Hide
namespace Go.Proofs.YtpbhgebblpdmnaaDoor
open Go.RowKit
set_option linter.unusedVariables false
theorem Lh {p : Prop} (h : p) : Hid p := Lib.hid h
theorem zn (a : Act) (v : Value) : Act.put a none v = a := rfl
theorem zp (t : Array Value) (d : _) (i : Nat) (v : Value) : Act.put (Act.mk t d) (some i) v = Act.mk (t.setIfInBounds i v) d := rfl
theorem zu {α : Type} (l : List α) (i : Nat) (a : α) : l.toArray.setIfInBounds i a = (l.set i a).toArray := List.setIfInBounds_toArray l i a
theorem zv {α : Type} (x : α) (l : List α) (a : α) : (x :: l).set 0 a = a :: l := rfl
theorem zw {α : Type} (x : α) (l : List α) (n : Nat) (a : α) : (x :: l).set (n + 1) a = x :: l.set n a := rfl
abbrev dD (n : Nat) : Edge := { on := n, ground := Ground.data }
abbrev dP (n : Nat) : Edge := { on := n, ground := Ground.phase }
abbrev dC (n : Nat) : Edge := { on := n, ground := Ground.chain }
abbrev dT (n : Nat) : Edge := { on := n, ground := Ground.textOnly Departure.lateStores }
abbrev dG (n : Nat) : Edge := { on := n, ground := Ground.gcOnly Departure.lateStores }
theorem tk {P : Program} {md : Region.Mode} {ops : Array Oper} {Q : Exit → Act → World → Prop} {fuel : Nat} {listed : Array Bool} {a : Act} {w : World} (i : Nat) (oi : Oper) (v : Value) (hy : ∀ W, (execOp a.eval oi).run P W = .ok (.value v) W)
 (h : wpAny P md ops Q fuel (listed.setIfInBounds i true) (a.put oi.dst v) w) (hi : ops[i]? = some oi := by rfl) (hs : Region.noSelect ops = true := by kernel_rfl) (hf : Region.free md ops listed i = true := by kernel_rfl)
 (hr : (Region.ready md ops listed).contains i = true := by kernel_rfl) (hQ : ∀ c a w, Q (.panic c) (a.put oi.dst v) w → Q (.panic c) a w := by exact fun _ _ _ h => h) (hw : Region.wanted oi (yielded ops a.tmps) = true := by rfl) :
 wpAny P md ops Q (fuel + 1) listed a w := wpAny_take hi hs hf hr hQ (Or.inl ⟨hw, hy⟩) h
theorem tkH {P : Program} {md : Region.Mode} {ops : Array Oper} {Q : Exit → Act → World → Prop} {S : World → Prop} {fuel : Nat} {listed : Array Bool} {a : Act} {w : World} (i : Nat) (oi : Oper) (v : Value) (hS : S w) (hy : ∀ W, S W → (execOp a.eval oi).run P W = .ok (.value v) W)
 (h : wpAnyH P md ops Q S fuel (listed.setIfInBounds i true) (a.put oi.dst v) w) (hi : ops[i]? = some oi := by rfl) (hs : Region.noSelect ops = true := by kernel_rfl) (hf : Region.free md ops listed i = true := by kernel_rfl)
 (hr : (Region.ready md ops listed).contains i = true := by kernel_rfl) (hQ : ∀ c a w, Q (.panic c) (a.put oi.dst v) w → Q (.panic c) a w := by exact fun _ _ _ h => h) (hw : Region.wanted oi (yielded ops a.tmps) = true := by rfl) :
 wpAnyH P md ops Q S (fuel + 1) listed a w := wpAnyH_take hi hs hf hr hQ (Or.inl ⟨hw, hy⟩) hS h
def nO : List Oper → Nat → Option Oper
 | [], _ => none
 | a :: _, 0 => some a
 | _ :: l, i + 1 => nO l i
theorem nO_eq : ∀ (l : List Oper) (i : Nat), nO l i = l[i]?
 | [], _ => rfl
 | _ :: _, 0 => rfl
 | _ :: l, i + 1 => by simp only [nO, List.getElem?_cons_succ]; exact nO_eq l i
theorem nA {ops : Array Oper} {i : Nat} {o : Oper} (h : nO ops.toList i = some o) : ops[i]? = some o := by rw [← h, nO_eq, Array.getElem?_toList]
theorem g0 {α : Type} {a : α} {l : List α} : (a :: l)[0]? = some a := List.getElem?_cons_zero
theorem gs {α : Type} {a : α} {l : List α} {i : Nat} : (a :: l)[i + 1]? = l[i]? := List.getElem?_cons_succ
section
variable {P : Program} {md : Region.Mode} {ops : Array Oper} {Q : Exit → Act → World → Prop} {S : World → Prop} {fuel : Nat} {listed : Array Bool} {a a' : Act} {w : World} {oi : Oper}
theorem tf (i : Nat) (v : Value) (hy : ∀ W, (execOp a.eval oi).run P W = .ok (.value v) W) (h : wpAny P md ops Q fuel (listed.setIfInBounds i true) a' w) (hi : nO ops.toList i = some oi := by exact rfl) (ha : a.put oi.dst v = a' := by (try simp only [zp, zn, zu, zv, zw]) <;> exact rfl)
 (hs : Region.noSelect ops = true := by kernel_rfl) (hf : Region.free md ops listed i = true := by kernel_rfl)
 (hr : (Region.ready md ops listed).contains i = true := by kernel_rfl) (hQ : ∀ c a w, Q (.panic c) (a.put oi.dst v) w → Q (.panic c) a w := by exact fun _ _ _ h => h) (hw : Region.wanted oi (yielded ops a.tmps) = true := by rfl) :
 wpAny P md ops Q (fuel + 1) listed a w := wpAny_take (nA hi) hs hf hr hQ (Or.inl ⟨hw, hy⟩) (by rw [ha]; exact h)
theorem tg (i : Nat) (v : Value) (h : wpAny P md ops Q fuel (listed.setIfInBounds i true) a' w) (hi : nO ops.toList i = some oi := by exact rfl) (hy : ∀ W, (execOp a.eval oi).run P W = .ok (.value v) W := by (intro W; go_simp)) (ha : a.put oi.dst v = a' := by (try simp only [zp, zn, zu, zv, zw]) <;> exact rfl)
 (hs : Region.noSelect ops = true := by kernel_rfl) (hf : Region.free md ops listed i = true := by kernel_rfl)
 (hr : (Region.ready md ops listed).contains i = true := by kernel_rfl) (hQ : ∀ c a w, Q (.panic c) (a.put oi.dst v) w → Q (.panic c) a w := by exact fun _ _ _ h => h) (hw : Region.wanted oi (yielded ops a.tmps) = true := by rfl) :
 wpAny P md ops Q (fuel + 1) listed a w := wpAny_take (nA hi) hs hf hr hQ (Or.inl ⟨hw, hy⟩) (by rw [ha]; exact h)
theorem tn (i : Nat) (h : wpAny P md ops Q fuel (listed.setIfInBounds i true) a' w) (hi : nO ops.toList i = some oi := by exact rfl) (ha : a.put oi.dst undef = a' := by (try simp only [zp, zn, zu, zv, zw]) <;> exact rfl)
 (hs : Region.noSelect ops = true := by kernel_rfl) (hf : Region.free md ops listed i = true := by kernel_rfl)
 (hr : (Region.ready md ops listed).contains i = true := by kernel_rfl) (hQ : ∀ c a w, Q (.panic c) (a.put oi.dst undef) w → Q (.panic c) a w := by exact fun _ _ _ h => h) (hw : Region.wanted oi (yielded ops a.tmps) = false := by rfl) :
 wpAny P md ops Q (fuel + 1) listed a w := wpAny_take (nA hi) hs hf hr hQ (Or.inr ⟨hw, rfl⟩) (by rw [ha]; exact h)
theorem tfH (i : Nat) (v : Value) (hS : S w) (hy : ∀ W, S W → (execOp a.eval oi).run P W = .ok (.value v) W) (h : wpAnyH P md ops Q S fuel (listed.setIfInBounds i true) a' w) (hi : nO ops.toList i = some oi := by exact rfl) (ha : a.put oi.dst v = a' := by (try simp only [zp, zn, zu, zv, zw]) <;> exact rfl)
 (hs : Region.noSelect ops = true := by kernel_rfl) (hf : Region.free md ops listed i = true := by kernel_rfl)
 (hr : (Region.ready md ops listed).contains i = true := by kernel_rfl) (hQ : ∀ c a w, Q (.panic c) (a.put oi.dst v) w → Q (.panic c) a w := by exact fun _ _ _ h => h) (hw : Region.wanted oi (yielded ops a.tmps) = true := by rfl) :
 wpAnyH P md ops Q S (fuel + 1) listed a w := wpAnyH_take (nA hi) hs hf hr hQ (Or.inl ⟨hw, hy⟩) hS (by rw [ha]; exact h)
theorem tgH (i : Nat) (v : Value) (hS : S w) (h : wpAnyH P md ops Q S fuel (listed.setIfInBounds i true) a' w) (hi : nO ops.toList i = some oi := by exact rfl) (hy : ∀ W, S W → (execOp a.eval oi).run P W = .ok (.value v) W := by (intro W hW; go_simp)) (ha : a.put oi.dst v = a' := by (try simp only [zp, zn, zu, zv, zw]) <;> exact rfl)
 (hs : Region.noSelect ops = true := by kernel_rfl) (hf : Region.free md ops listed i = true := by kernel_rfl)
 (hr : (Region.ready md ops listed).contains i = true := by kernel_rfl) (hQ : ∀ c a w, Q (.panic c) (a.put oi.dst v) w → Q (.panic c) a w := by exact fun _ _ _ h => h) (hw : Region.wanted oi (yielded ops a.tmps) = true := by rfl) :
 wpAnyH P md ops Q S (fuel + 1) listed a w := wpAnyH_take (nA hi) hs hf hr hQ (Or.inl ⟨hw, hy⟩) hS (by rw [ha]; exact h)
theorem ac {i : Nat} {rs : List Nat} (h : ∀ K' : Act → World → Prop, (∀ a w, wpAny P md ops Q fuel (listed.setIfInBounds i true) a w → K' a w) → Oper.wp P oi a w K' Q) (hs : AllReady P md ops Q fuel listed a w rs) (hi : nO ops.toList i = some oi := by exact rfl) (hw : Region.wanted oi (yielded ops a.tmps) = true := by rfl) :
 AllReady P md ops Q fuel listed a w (i :: rs) := AllReady.cons (nA hi) (fun K' hK => by rw [if_pos hw]; exact h K' hK) hs
theorem rm (rs : List Nat) (h : AllReady P md ops Q fuel listed a w rs) (hr : Region.ready md ops listed = rs := by kernel_rfl) (hne : rs ≠ [] := by simp) : wpAny P md ops Q (fuel + 1) listed a w := wpAny_ready hr hne h
theorem r1 (i : Nat) (h : ∀ K' : Act → World → Prop, (∀ a w, wpAny P md ops Q fuel (listed.setIfInBounds i true) a w → K' a w) → Oper.wp P oi a w K' Q) (hi : nO ops.toList i = some oi := by exact rfl) (hw : Region.wanted oi (yielded ops a.tmps) = true := by rfl) (hr : Region.ready md ops listed = [i] := by kernel_rfl) :
 wpAny P md ops Q (fuel + 1) listed a w := wpAny_ready hr (by simp) (ac h AllReady.nil hi hw)
theorem acH {i : Nat} {rs : List Nat} (h : ∀ K' : Act → World → Prop, Shut (∀ a w, S w → (S w → wpAnyH P md ops Q S fuel (listed.setIfInBounds i true) a w) → K' a w) → Oper.wp P oi a w K' Q) (hs : AllReadyH P md ops Q S fuel listed a w rs) (hi : nO ops.toList i = some oi := by exact rfl) (hw : Region.wanted oi (yielded ops a.tmps) = true := by rfl) :
 AllReadyH P md ops Q S fuel listed a w (i :: rs) := AllReadyH.cons (nA hi) (fun K' hK => by rw [if_pos hw]; exact h K' hK) hs
theorem rmH (rs : List Nat) (h : AllReadyH P md ops Q S fuel listed a w rs) (hr : Region.ready md ops listed = rs := by kernel_rfl) (hne : rs ≠ [] := by simp) : wpAnyH P md ops Q S (fuel + 1) listed a w := wpAnyH_ready hr hne h
theorem r1H (i : Nat) (h : ∀ K' : Act → World → Prop, Shut (∀ a w, S w → (S w → wpAnyH P md ops Q S fuel (listed.setIfInBounds i true) a w) → K' a w) → Oper.wp P oi a w K' Q) (hi : nO ops.toList i = some oi := by exact rfl) (hw : Region.wanted oi (yielded ops a.tmps) = true := by rfl) (hr : Region.ready md ops listed = [i] := by kernel_rfl) :
 wpAnyH P md ops Q S (fuel + 1) listed a w := wpAnyH_ready hr (by simp) (acH h AllReadyH.nil hi hw)
theorem hk {K p : Act → World → Prop} (hK : ∀ a w, p a w → K a w) (h : p a' w) (ha : a = a' := by (try simp only [zp, zn, zu, zv, zw]) <;> exact rfl) : K a w := hK _ _ (by rw [ha]; exact h)
end
end Go.Proofs.YtpbhgebblpdmnaaDoor
