/-
  The input of a digest parts: the same input has the same tag and the same parts.
  Condition: every part is no longer than an int64.
-/
import Derived.Test.YtfagpeacilfaaaaDoorRInp
namespace Go.Proofs.YtfagpeacilfaaaaDoor
open Go.RowKit Wr Sh
set_option linter.unusedVariables false
theorem flat_inj : ∀ (a b : List (List UInt8)), (∀ x ∈ a, x.length ≤ 9223372036854775807) → (∀ x ∈ b, x.length ≤ 9223372036854775807) → (a.map encStr).flatten = (b.map encStr).flatten → a = b := by
  intro a
  induction a with
  | nil =>
    intro b _ _ h
    cases b with
    | nil => rfl
    | cons y b =>
      have h1 := congrArg List.length h
      have := encStr_len y
      simp only [List.map_nil, List.flatten_nil, List.map_cons, List.flatten_cons, List.length_nil, List.length_append] at h1
      omega
  | cons x a ih =>
    intro b ha hb h
    cases b with
    | nil =>
      have h1 := congrArg List.length h
      have := encStr_len x
      simp only [List.map_nil, List.flatten_nil, List.map_cons, List.flatten_cons, List.length_nil, List.length_append] at h1
      omega
    | cons y b =>
      rw [List.map_cons, List.map_cons, List.flatten_cons, List.flatten_cons] at h
      have h1 := decStr_enc x (a.map encStr).flatten (ha x (by simp))
      have h2 := decStr_enc y (b.map encStr).flatten (hb y (by simp))
      rw [h, h2] at h1
      obtain rfl : y = x := (Prod.mk.inj h1).1
      have h3 := List.append_cancel_left h
      rw [ih b (fun z hz => ha z (by simp [hz])) (fun z hz => hb z (by simp [hz])) h3]
theorem inp_inj (t u : UInt8) (a b : List ByteArray) (ha : ∀ x ∈ a, x.size ≤ 9223372036854775807) (hb : ∀ x ∈ b, x.size ≤ 9223372036854775807) (h : inp t a = inp u b) : t = u ∧ a = b := by
  unfold inp at h
  obtain ⟨h1, h2⟩ := List.cons.inj h
  refine ⟨h1, ?_⟩
  have e : ∀ l : List ByteArray, (l.map fun s => encStr s.data.toList) = ((l.map fun s => s.data.toList).map encStr) := by intro l; simp
  rw [e, e] at h2
  have h3 := flat_inj _ _ (by
    intro x hx; obtain ⟨s, hs, rfl⟩ := List.mem_map.1 hx; rw [size_list]; exact ha s hs) (by
    intro x hx; obtain ⟨s, hs, rfl⟩ := List.mem_map.1 hx; rw [size_list]; exact hb s hs) h2
  have hinj : Function.Injective (fun s : ByteArray => s.data.toList) := by
    intro s r hsr
    cases s with | mk ds => cases r with | mk dr =>
    have : ds = dr := Array.toList_inj.1 hsr
    rw [this]
  exact (List.map_inj_right (fun x y hxy => hinj hxy)).1 h3
end Go.Proofs.YtfagpeacilfaaaaDoor
