/-
  The contract of merkle's countBelow.
  Conditions: at most 2^30 leaves, their keys in order.
-/
import Derived.Test.YtofccgkgjcnfbaaDoorPof
import Derived.Shelf.SlSorted.Search
namespace Go.Proofs.YtofccgkgjcnfbaaDoor
open Go.RowKit Wr Sh Go.Sort Go.Lib
set_option linter.unusedVariables false
set_option maxRecDepth 100000

def renS : Go.Shelf.Ren := ⟨fun | 16 => 83 | n => n, fun | 35 => 129 | 38 => 141 | n => n, fun n => n⟩
theorem laysS : SlLaysO.n16 Tryd.prog renS := by
  constructor
  all_goals (intros; kernel_rfl)
set_option maxHeartbeats 1000000 in
theorem below_any (ga gk g o n c i : Nat) (k key : ByteArray) (W : World) (hi : i < n) (hn : n ≤ 1073741824)
    (h1 : W.cell? ⟨ga, 0, none⟩ = some (.slice (some ⟨g, o, none⟩) n c)) (h2 : W.cell? ⟨gk, 0, none⟩ = some (.string key)) (h3 : W.cell? ⟨g, o + i * 2, none⟩ = some (.string k)) :
    Calls Tryd.prog 84 #[.int .i64 (i : Int), .pointer (some ⟨ga, 0, none⟩), .pointer (some ⟨gk, 0, none⟩)] W fun e w' => e = .returned (.bool (!sl k key)) ∧ ∃ q, w' = W.drewN q := by
  have hiz : (i : Int) < (n : Int) := by omega
  go_enter Tryd.func84, Tryd.ntmps84
  go_wp2
  go_region
  all_goals go_wp2
  all_goals go_ret
  all_goals exact ⟨by first | rfl | (rw [bytesLess_eq, Lib.toList_data, Lib.toList_data]; rfl) | (unfold sl; simp), 1, rfl⟩
theorem count_range {α : Type} (L : List α) (d : α) (f : α → Bool) : (List.range L.length).countP (fun i => f (L.getD i d)) = L.countP f := by
  have h : L = (List.range L.length).map (fun i => L.getD i d) := by
    apply List.ext_getElem
    · simp
    · intro i h1 h2
      simp only [List.getElem_map, List.getElem_range]
      rw [List.getD_eq_getElem?_getD, List.getElem?_eq_getElem h1]; rfl
  conv => rhs; rw [h, List.countP_map]
  rfl
set_option maxHeartbeats 1000000 in
theorem count_any (A : Option Addr) (L : List Lf) (c : Nat) (key : ByteArray) (w : World) (hL : L.length ≤ 1073741824) (ho : ord L) (hr : Rd w w.heap.size A (LC L)) :
    Calls Tryd.prog 54 #[.slice A L.length c, .string key] w fun e w' => e = .returned (.int .i64 (cb L key : Nat)) ∧ Below w.heap.size w w' := by
  obtain ⟨W0, hW0⟩ : ∃ W0, W0 = (w.alloc (.cells #[.slice A L.length c] 33)).alloc (.cells #[.string key] 9) := ⟨_, rfl⟩
  have hsize : W0.heap.size = w.heap.size + 1 + 1 := by rw [hW0]; simp
  have hB0 : Below w.heap.size w W0 := by rw [hW0]; exact ((Below.refl _ w).alloc (Nat.le_refl _) _).alloc (by simp) _
  have ca : W0.cell? ⟨w.heap.size, 0, none⟩ = some (.slice A L.length c) := by rw [hW0]; exact (((Blk.new w 33 [.slice A L.length c]).alloc _).cell 0).trans rfl
  have cx : W0.cell? ⟨w.heap.size + 1, 0, none⟩ = some (.string key) := by rw [hW0]; exact ((Blk.newAt _ _ 9 [.string key] (by simp)).cell 0).trans rfl
  have eg : ∀ args w, (callFunc 84 args).run Tryd.prog w = .ok (.enter 84 args) w := enters_of Tryd.func84 (by kernel_rfl) rfl
  let d : Lf := (ByteArray.empty, ByteArray.empty)
  have hS := Any.sort_Search laysS 84 #[.pointer (some ⟨w.heap.size, 0, none⟩), .pointer (some ⟨w.heap.size + 1, 0, none⟩)] L.length (fun i => !sl (L.getD i d).1 key) W0 eg (by omega)
    (fun m os i hi => by
      obtain ⟨g, o, rfl, hg, hc⟩ := hr (by intro e; have := congrArg List.length e; rw [LC_len] at this; simp at this; omega)
      have e1 : L.getD i d = L[i] := by rw [List.getD_eq_getElem?_getD, List.getElem?_eq_getElem hi]; rfl
      have h3 : W0.cell? ⟨g, o + i * 2, none⟩ = some (.string L[i].1) := (hB0.cell (p := ⟨g, o + i * 2, none⟩) hg).trans (hc _ _ (LC_at L i hi).1)
      show Calls Tryd.prog 84 _ _ _
      rw [e1]
      exact (below_any w.heap.size (w.heap.size + 1) g o L.length c i L[i].1 key _ hi hL (cell_grown (by simp [hsize]; omega) ca m os) (cell_grown (by simp [hsize]) cx m os) (cell_grown (by simp [hsize]; omega) h3 m os)).mono
        fun _ _ ⟨he, q, hq⟩ => ⟨he, q, #[], by rw [hq, grow_empty]⟩)
    (fun a b hab hb h => by
      have ea : L.getD a d = L[a]'(by omega) := by rw [List.getD_eq_getElem?_getD, List.getElem?_eq_getElem (by omega)]; rfl
      have eb : L.getD b d = L[b] := by rw [List.getD_eq_getElem?_getD, List.getElem?_eq_getElem hb]; rfl
      rw [ea] at h; rw [eb]
      rw [Bool.not_eq_true'] at h ⊢
      have h1 := cb_iff L key ho a (by omega)
      have h2 := cb_iff L key ho b hb
      rw [h] at h1
      cases hx : sl L[b].1 key with
      | false => rfl
      | true =>
        rw [hx] at h2
        have := h2.1 rfl
        exact absurd (h1.2 (by omega)) (by simp))
  have ec : (List.range L.length).countP (fun i => !(!sl (L.getD i d).1 key)) = cb L key := by
    simp only [Bool.not_not]
    exact count_range L d (fun x => sl x.1 key)
  rw [ec] at hS
  change Calls Tryd.prog 83 _ _ _ at hS
  have HS := Lib.hid hS
  have HB := Lib.hid hB0
  have HW := Lib.hid hW0
  have HZ := Lib.hid hsize
  clear ca cx hr hS hB0 hW0 hsize ec eg
  generalize cb L key = r at HS ⊢
  go_enter Tryd.func54, Tryd.ntmps54
  go_wp2_with (go_at_call 83; rw [← HW.out]; refine HS.out.mono ?_; rintro e w' ⟨rfl, q, os, rfl⟩)
  go_ret
  exact ⟨rfl, HB.out.trans (below_grown_sl w.heap.size W0 q os (by have := HZ.out; omega))⟩
end Go.Proofs.YtofccgkgjcnfbaaDoor
