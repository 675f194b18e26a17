/-
  The contracts of merkle's countBelow, isBounded and Valid.
  Conditions: at most 2^30 leaves, keys and values of at most 2^30 bytes.
-/
import Derived.Test.YtofccgkgjcnfbaaDoorZ
import Derived.Test.YtofccgkgjcnfbaaDoorPof
import Derived.Shelf.SlSorted.Search
import Derived.WalkLawsBesides
import Derived.BigQuiet
set_option linter.unusedSimpArgs false
namespace Go.Proofs.YtofccgkgjcnfbaaDoor
open Go.RowKit Wr Sh Go.Sort Go.Lib
set_option linter.unusedVariables false
set_option maxRecDepth 100000
def renS : Go.Shelf.Ren := ⟨fun | 16 => 83 | n => n, fun | 35 => 129 | 38 => 141 | n => n, fun n => n⟩
theorem laysS : SlLaysO.n16 Tryd.prog renS := by
  constructor
  all_goals (intros; kernel_rfl)
set_option maxHeartbeats 1000000 in
theorem below_any (ga gk g o n c i : Nat) (k key : ByteArray) (W : World) (hi : i < n) (hn : n ≤ 1073741824)
    (h1 : W.cell? ⟨ga, 0, none⟩ = some (.slice (some ⟨g, o, none⟩) n c)) (h2 : W.cell? ⟨gk, 0, none⟩ = some (.string key)) (h3 : W.cell? ⟨g, o + i * 2, none⟩ = some (.string k)) :
    Calls Tryd.prog 84 #[.int .i64 (i : Int), .pointer (some ⟨ga, 0, none⟩), .pointer (some ⟨gk, 0, none⟩)] W fun e w' => e = .returned (.bool (!sl k key)) ∧ ∃ q, w' = W.drewN q := by
  have hiz : (i : Int) < (n : Int) := by omega
  go_enter Tryd.func84, Tryd.ntmps84
  go_wp2
  go_region
  all_goals go_wp2
  all_goals go_ret
  all_goals exact ⟨by first | rfl | (rw [bytesLess_eq, Lib.toList_data, Lib.toList_data]; rfl) | (unfold sl; simp), 1, rfl⟩
theorem count_range {α : Type} (L : List α) (d : α) (f : α → Bool) : (List.range L.length).countP (fun i => f (L.getD i d)) = L.countP f := by
  have h : L = (List.range L.length).map (fun i => L.getD i d) := by
    apply List.ext_getElem
    · simp
    · intro i h1 h2
      simp only [List.getElem_map, List.getElem_range]
      rw [List.getD_eq_getElem?_getD, List.getElem?_eq_getElem h1]; rfl
  conv => rhs; rw [h, List.countP_map]
  rfl
set_option maxHeartbeats 1000000 in
theorem count_any (A : Option Addr) (L : List Lf) (c : Nat) (key : ByteArray) (w : World) (hL : L.length ≤ 1073741824) (ho : ord L) (hr : Rd w w.heap.size A (LC L)) :
    Calls Tryd.prog 54 #[.slice A L.length c, .string key] w fun e w' => e = .returned (.int .i64 (cb L key : Nat)) ∧ Below w.heap.size w w' := by
  obtain ⟨W0, hW0⟩ : ∃ W0, W0 = (w.alloc (.cells #[.slice A L.length c] 33)).alloc (.cells #[.string key] 9) := ⟨_, rfl⟩
  have hsize : W0.heap.size = w.heap.size + 1 + 1 := by rw [hW0]; simp
  have hB0 : Below w.heap.size w W0 := by rw [hW0]; exact ((Below.refl _ w).alloc (Nat.le_refl _) _).alloc (by simp) _
  have ca : W0.cell? ⟨w.heap.size, 0, none⟩ = some (.slice A L.length c) := by rw [hW0]; exact (((Blk.new w 33 [.slice A L.length c]).alloc _).cell 0).trans rfl
  have cx : W0.cell? ⟨w.heap.size + 1, 0, none⟩ = some (.string key) := by rw [hW0]; exact ((Blk.newAt _ _ 9 [.string key] (by simp)).cell 0).trans rfl
  have eg : ∀ args w, (callFunc 84 args).run Tryd.prog w = .ok (.enter 84 args) w := enters_of Tryd.func84 (by kernel_rfl) rfl
  let d : Lf := (ByteArray.empty, ByteArray.empty)
  have hS := Any.sort_Search laysS 84 #[.pointer (some ⟨w.heap.size, 0, none⟩), .pointer (some ⟨w.heap.size + 1, 0, none⟩)] L.length (fun i => !sl (L.getD i d).1 key) W0 eg (by omega)
    (fun m os i hi => by
      obtain ⟨g, o, rfl, hg, hc⟩ := hr (by intro e; have := congrArg List.length e; rw [LC_len] at this; simp at this; omega)
      have e1 : L.getD i d = L[i] := by rw [List.getD_eq_getElem?_getD, List.getElem?_eq_getElem hi]; rfl
      have h3 : W0.cell? ⟨g, o + i * 2, none⟩ = some (.string L[i].1) := (hB0.cell (p := ⟨g, o + i * 2, none⟩) hg).trans (hc _ _ (LC_at L i hi).1)
      show Calls Tryd.prog 84 _ _ _
      rw [e1]
      exact (below_any w.heap.size (w.heap.size + 1) g o L.length c i L[i].1 key _ hi hL (cell_grown (by simp [hsize]; omega) ca m os) (cell_grown (by simp [hsize]) cx m os) (cell_grown (by simp [hsize]; omega) h3 m os)).mono
        fun _ _ ⟨he, q, hq⟩ => ⟨he, q, #[], by rw [hq, grow_empty]⟩)
    (fun a b hab hb h => by
      have ea : L.getD a d = L[a]'(by omega) := by rw [List.getD_eq_getElem?_getD, List.getElem?_eq_getElem (by omega)]; rfl
      have eb : L.getD b d = L[b] := by rw [List.getD_eq_getElem?_getD, List.getElem?_eq_getElem hb]; rfl
      rw [ea] at h; rw [eb]
      rw [Bool.not_eq_true'] at h ⊢
      have h1 := cb_iff L key ho a (by omega)
      have h2 := cb_iff L key ho b hb
      rw [h] at h1
      cases hx : sl L[b].1 key with
      | false => rfl
      | true =>
        rw [hx] at h2
        have := h2.1 rfl
        exact absurd (h1.2 (by omega)) (by simp))
  have ec : (List.range L.length).countP (fun i => !(!sl (L.getD i d).1 key)) = cb L key := by
    simp only [Bool.not_not]
    exact count_range L d (fun x => sl x.1 key)
  rw [ec] at hS
  change Calls Tryd.prog 83 _ _ _ at hS
  have HS := Lh hS
  have HB := Lh hB0
  have HW := Lh hW0
  have HZ := Lh hsize
  clear ca cx hr hS hB0 hW0 hsize ec eg
  generalize cb L key = r at HS ⊢
  go_enter Tryd.func54, Tryd.ntmps54
  go_wp2_with (go_at_call 83; rw [← HW.out]; refine HS.out.mono ?_; rintro e w' ⟨rfl, q, os, rfl⟩)
  go_ret
  exact ⟨rfl, HB.out.trans (below_grown_sl w.heap.size W0 q os (by have := HZ.out; omega))⟩
end Go.Proofs.YtofccgkgjcnfbaaDoor
namespace Go.Proofs.YtofccgkgjcnfbaaDoor
open Go.RowKit Wr Sh
set_option linter.unusedVariables false
set_option maxRecDepth 100000
def bndB (f s : Int) (n b e : Nat) : Bool := (decide (0 < b) || decide (f = 0)) && (decide (e < n) || decide (f + n = s))
set_option maxHeartbeats 4000000 in
theorem bounded_any (f s : Int) (A1 A2 : Option Addr) (n c1 m c2 b e : Nat) (w : World) (hf0 : 0 ≤ f) (hf1 : f ≤ 1073741824) (hn : n ≤ 1073741824) :
    Calls Tryd.prog 60 #[.agg #[.int .i64 f, .int .i64 s, .slice A1 n c1, .slice A2 m c2], .int .i64 (b : Int), .int .i64 (e : Int)] w fun en w' => en = .returned (.bool (bndB f s n b e)) ∧ Below w.heap.size w w' := by
  have HB := Lh ((Below.refl w.heap.size w).alloc (Nat.le_refl _) (.cells #[.int .i64 f, .int .i64 s, .slice A1 n c1, .slice A2 m c2] 50))
  by_cases h1 : 0 < b
  · have i1 : (0 : Int) < (b : Int) := by omega
    by_cases h3 : e < n
    · have i3 : (e : Int) < (n : Int) := by omega
      rw [show bndB f s n b e = true by simp [bndB, h1, h3]]
      go_enter Tryd.func60, Tryd.ntmps60
      go_wp2_with fail
      go_ret
      exact ⟨rfl, HB.out⟩
    · have i3 : ¬ (e : Int) < (n : Int) := by omega
      by_cases h4 : f + n = s
      · rw [show bndB f s n b e = true by simp [bndB, h1, h4]]
        subst h4
        go_enter Tryd.func60, Tryd.ntmps60
        go_wp2_with fail
        go_ret
        exact ⟨rfl, HB.out⟩
      · have i4 : (f + (n : Int) == s) = false := by rw [beq_eq_false_iff_ne]; exact h4
        rw [show bndB f s n b e = false by simp [bndB, h3, h4]]
        clear h4
        go_enter Tryd.func60, Tryd.ntmps60
        go_wp2_with fail
        go_ret
        exact ⟨rfl, HB.out⟩
  · have i1 : ¬ (0 : Int) < (b : Int) := by omega
    by_cases h2 : f = 0
    · subst h2
      by_cases h3 : e < n
      · have i3 : (e : Int) < (n : Int) := by omega
        rw [show bndB 0 s n b e = true by simp [bndB, h3]]
        go_enter Tryd.func60, Tryd.ntmps60
        go_wp2_with fail
        go_ret
        exact ⟨rfl, HB.out⟩
      · have i3 : ¬ (e : Int) < (n : Int) := by omega
        by_cases h4 : (n : Int) = s
        · rw [show bndB 0 s n b e = true by simp [bndB, h4]]
          subst h4
          go_enter Tryd.func60, Tryd.ntmps60
          go_wp2_with fail
          go_ret
          exact ⟨rfl, HB.out⟩
        · have i4 : ((n : Int) == s) = false := by rw [beq_eq_false_iff_ne]; exact h4
          rw [show bndB 0 s n b e = false by simp [bndB, h3, h4]]
          clear h4
          go_enter Tryd.func60, Tryd.ntmps60
          go_wp2_with fail
          go_ret
          exact ⟨rfl, HB.out⟩
    · have i2 : (f == 0) = false := by rw [beq_eq_false_iff_ne]; exact h2
      rw [show bndB f s n b e = false by simp [bndB, h1, h2]]
      clear h2
      by_cases h3 : e < n
      · have i3 : (e : Int) < (n : Int) := by omega
        go_enter Tryd.func60, Tryd.ntmps60
        go_wp2_with fail
        go_ret
        exact ⟨rfl, HB.out⟩
      · have i3 : ¬ (e : Int) < (n : Int) := by omega
        by_cases h4 : f + n = s
        · subst h4
          go_enter Tryd.func60, Tryd.ntmps60
          go_wp2_with fail
          go_ret
          exact ⟨rfl, HB.out⟩
        · have i4 : (f + (n : Int) == s) = false := by rw [beq_eq_false_iff_ne]; exact h4
          clear h4
          go_enter Tryd.func60, Tryd.ntmps60
          go_wp2_with fail
          go_ret
          exact ⟨rfl, HB.out⟩
end Go.Proofs.YtofccgkgjcnfbaaDoor
namespace Go.Proofs.YtofccgkgjcnfbaaDoor
open Go.RowKit Wr Sh
set_option linter.unusedVariables false
set_option maxRecDepth 100000
theorem leq_str (x y : ByteArray) : (Op.bytesLess y.toList x.toList || y.toList == x.toList) = !sl x y := by
  rw [Go.Proofs.bytesLess_eq, Lib.toList_data, Lib.toList_data]
  cases h : sl x y with
  | true =>
    have h1 := sl_asymm h
    unfold sl at h1
    have h2 : (y.data.toList == x.data.toList) = false := by
      rw [beq_eq_false_iff_ne]; intro e
      have h3 := sl_irrefl x
      unfold sl at h h3
      rw [e, h3] at h; cases h
    rw [h1, h2]; rfl
  | false =>
    cases h1 : sl y x with
    | true => unfold sl at h1; rw [h1]; rfl
    | false => rw [sl_eq h h1]; simp
theorem ordB_adj : ∀ L : List Lf, ordB L = true ↔ ∀ j (h : j + 1 < L.length), sl (L[j]'(by omega)).1 L[j + 1].1 = true
  | [] => by simp [ordB]
  | [x] => by simp [ordB]
  | x :: y :: r => by
    have ih := ordB_adj (y :: r)
    unfold ordB
    rw [Bool.and_eq_true, ih]
    constructor
    · rintro ⟨h1, h2⟩ j hj
      cases j with
      | zero => exact h1
      | succ j => exact h2 j (by simpa using hj)
    · intro h
      exact ⟨h 0 (by simp), fun j hj => h (j + 1) (by simpa using hj)⟩
theorem leaf_cells {W : World} {B : Nat} {A : Option Addr} {L : List Lf} (h : Rd W B A (LC L)) (i : Nat) (hi : i < L.length) : ∃ g o, A = some ⟨g, o, none⟩ ∧ g < B ∧ ∀ j (hj : j < L.length), W.cell? ⟨g, o + j * 2, none⟩ = some (.string L[j].1) ∧ W.cell? ⟨g, o + j * 2 + 1, none⟩ = some (.string L[j].2) := by
  obtain ⟨g, o, e, hg, hc⟩ := h (by intro e; have := congrArg List.length e; rw [LC_len] at this; simp at this; omega)
  exact ⟨g, o, e, hg, fun j hj => ⟨hc _ _ (LC_at L j hj).1, by rw [Nat.add_assoc]; exact hc _ _ (LC_at L j hj).2⟩⟩
theorem take_any (L : List Lf) (k : Nat) (h : k < L.length) : (L.take (k + 1)).any longB = ((L.take k).any longB || longB L[k]) := by
  rw [List.take_succ_eq_append_getElem h, List.any_append]; simp
set_option maxHeartbeats 4000000 in
theorem valid_any (A : Option Addr) (L : List Lf) (c : Nat) (w : World) (hL : okL L) (hr : Rd w w.heap.size A (LC L)) :
    Calls Tryd.prog 15 #[.slice A L.length c] w fun e w' => e = .returned (.int .i64 (validE L)) ∧ Below w.heap.size w w' := by
  have hln := hL.1
  by_cases hlong : 4096 < L.length
  · have i1 : (4096 : Int) < (L.length : Int) := by omega
    rw [show validE L = 4 by unfold validE; rw [if_pos hlong]]
    go_enter Tryd.func15, Tryd.ntmps15
    go_wp2_with fail
    go_ret
    exact ⟨rfl, Below.refl _ _⟩
  · have i1 : ¬ (4096 : Int) < (L.length : Int) := by omega
    have HL := Lh hL
    have HR := Lh hr
    have HN := Lh hlong
    obtain ⟨N, hN⟩ : ∃ N, N = L.length := ⟨_, rfl⟩
    have HNN := Lh hN
    rw [← hN] at hln i1 ⊢
    clear hL hr hlong hN
    go_enter Tryd.func15, Tryd.ntmps15
    go_wp2_with fail
    go_loopw [4, 11] (fun s4 s11 wr => ∃ k : Nat, k ≤ N ∧ s11 = .int .i64 (k : Int) ∧ Hid ((L.take k).any longB = false) ∧ Hid (Below w.heap.size w wr))
      (fun _ s11 _ => N - (intOf s11).toNat)
    case atStart => exact ⟨0, by omega, rfl, Lh rfl, Lh (Below.refl _ _)⟩
    case round =>
    obtain ⟨k, hk, rfl, hany, hb⟩ := hrel
    by_cases hlt : k < N
    · have hkl : k < L.length := by have := HNN.out; omega
      obtain ⟨g, o, rfl, hg, hc⟩ := leaf_cells HR.out k hkl
      obtain ⟨c1, c2⟩ := hc k hkl
      obtain ⟨x, hx⟩ : ∃ x : Lf, x = L[k] := ⟨_, rfl⟩
      have hz := HL.out.2 L[k] (List.getElem_mem hkl)
      rw [← hx] at c1 c2 hz
      have hc1 : wr.cell? ⟨g, o + k * 2, none⟩ = some (.string x.1) := (hb.out.cell (p := ⟨g, o + k * 2, none⟩) hg).trans c1
      have hc2 : wr.cell? ⟨g, o + k * 2 + 1, none⟩ = some (.string x.2) := (hb.out.cell (p := ⟨g, o + k * 2 + 1, none⟩) hg).trans c2
      have HX := Lh hx
      have HS := Lh (take_any L k hkl)
      obtain ⟨x1, x2⟩ := x
      have hz1 : x1.size ≤ 1073741824 := hz.1
      have hz2 : x2.size ≤ 1073741824 := hz.2
      have hltI : (k : Int) < (N : Int) := by omega
      have hkk : (k : Int) ≤ 1073741824 := by omega
      have HBW := Lh (hb.out.alloc hb.out.size (.cells #[.string x1, .string x2] 41))
      clear c1 c2 hx hc hz
      by_cases hlx : longB (x1, x2) = true
      · have HV := Lh (show validE L = 4 by
          have h1 : L.any longB = true := by
            rw [List.any_eq_true]
            exact ⟨L[k], List.getElem_mem hkl, by rw [← HX.out]; exact hlx⟩
          unfold validE; rw [if_neg HN.out, if_pos h1])
        have hcs : (65536 < x1.size) ∨ (¬ 65536 < x1.size ∧ 65536 < x2.size) := by
          unfold longB at hlx
          simp only [Bool.or_eq_true, decide_eq_true_eq] at hlx
          omega
        clear hlx
        rcases hcs with h | ⟨h, h'⟩
        · have j1 : (65536 : Int) < (x1.size : Int) := by omega
          go_wp2_with fail
          go_ret
          exact ⟨by rw [HV.out]; rfl, HBW.out⟩
        · have j1 : ¬ (65536 : Int) < (x1.size : Int) := by omega
          have j2 : (65536 : Int) < (x2.size : Int) := by omega
          go_wp2_with fail
          go_ret
          exact ⟨by rw [HV.out]; rfl, HBW.out⟩
      · have hcs : ¬ 65536 < x1.size ∧ ¬ 65536 < x2.size := by
          unfold longB at hlx
          simp only [Bool.or_eq_true, decide_eq_true_eq, not_or] at hlx
          exact hlx
        have HQ := Lh (show (L.take (k + 1)).any longB = false by rw [HS.out, hany.out, ← HX.out]; simpa using hlx)
        have j1 : ¬ (65536 : Int) < (x1.size : Int) := by omega
        have j2 : ¬ (65536 : Int) < (x2.size : Int) := by omega
        clear hlx hcs
        go_wp2_with fail
        go_roundw
        case rel => exact ⟨k + 1, by omega, by go_num, HQ, HBW⟩
        case measure => simp only [intOf]; omega
    · obtain rfl : k = N := by omega
      have HQ := Lh (show L.any longB = false by
        have := hany.out
        rw [List.take_of_length_le (by have := HNN.out; omega)] at this
        exact this)
      have hlt2 : ¬ (k : Int) < (k : Int) := by omega
      clear hany
      go_wp2_with fail
      go_loopw [5] (fun s5 wz => ∃ j : Nat, j ≤ max k 1 - 1 ∧ s5 = .int .i64 ((j : Int) + 1) ∧ Hid (∀ i (h : i + 1 < L.length), i < j → sl (L[i]'(by omega)).1 L[i + 1].1 = true) ∧ Hid (Below w.heap.size w wz))
        (fun s5 _ => max k 1 - (intOf s5).toNat)
      case atStart => exact ⟨0, by omega, rfl, Lh (fun j h hj => by omega), hb⟩
      case round =>
      clear hb
      obtain ⟨j, hj, rfl, had, hb⟩ := hrel
      by_cases hlt : j + 1 < k
      · have hjl : j + 1 < L.length := by have := HNN.out; omega
        obtain ⟨g, o, rfl, hg, hc⟩ := leaf_cells HR.out j (by omega)
        obtain ⟨c1, _⟩ := hc j (by omega)
        obtain ⟨c2, _⟩ := hc (j + 1) hjl
        obtain ⟨x, hx⟩ : ∃ x : ByteArray, x = L[j].1 := ⟨_, rfl⟩
        obtain ⟨y, hy⟩ : ∃ y : ByteArray, y = L[j + 1].1 := ⟨_, rfl⟩
        rw [← hx] at c1
        rw [← hy] at c2
        have hc1 : wr.cell? ⟨g, o + j * 2, none⟩ = some (.string x) := (hb.out.cell (p := ⟨g, o + j * 2, none⟩) hg).trans c1
        have hc2 : wr.cell? ⟨g, o + (j + 1) * 2, none⟩ = some (.string y) := (hb.out.cell (p := ⟨g, o + (j + 1) * 2, none⟩) hg).trans c2
        have HX := Lh hx
        have HY := Lh hy
        have hltI : (j : Int) + 1 < (k : Int) := by omega
        have hjj : (j : Int) ≤ 1073741824 := by omega
        have ht1 : ((j : Int) + 1).toNat = j + 1 := by omega
        clear c1 c2 hx hy hc
        cases hs : sl x y with
        | true =>
          have ht2 : (Op.bytesLess y.toList x.toList || y.toList == x.toList) = false := by rw [leq_str, hs]; rfl
          have HAD := Lh (show ∀ i (h : i + 1 < L.length), i < j + 1 → sl (L[i]'(by omega)).1 L[i + 1].1 = true from fun i h hi => by
            rcases Nat.lt_or_ge i j with h1 | h1
            · exact had.out i h h1
            · obtain rfl : i = j := by omega
              rw [← HX.out, ← HY.out]; exact hs)
          have HB := Lh (below_drewN hb.out 1)
          clear hs
          go_wp2_with fail
          go_quiet (fail)
          go_wp2_with fail
          go_roundw
          case rel => exact ⟨j + 1, by omega, by go_num, HAD, by first | exact Lh (below_drewN hb.out _) | exact HB⟩
          case measure => simp only [intOf]; omega
        | false =>
          have ht2 : (Op.bytesLess y.toList x.toList || y.toList == x.toList) = true := by rw [leq_str, hs]; rfl
          have HV := Lh (show validE L = 1 by
            unfold validE; rw [if_neg HN.out, if_neg (by rw [HQ.out]; simp), if_neg]
            intro h
            have := (ordB_adj L).1 h j hjl
            rw [← HX.out, ← HY.out, hs] at this; cases this)
          clear hs
          go_wp2_with fail
          go_quiet (fail)
          go_wp2_with fail
          go_ret
          exact ⟨by rw [HV.out]; rfl, below_drewN hb.out _⟩
      · have hltI : ¬ (j : Int) + 1 < (k : Int) := by omega
        have HV := Lh (show validE L = 0 by
          unfold validE; rw [if_neg HN.out, if_neg (by rw [HQ.out]; simp), if_pos]
          exact (ordB_adj L).2 (fun i h => had.out i h (by have := HNN.out; omega)))
        go_wp2_with fail
        go_ret
        exact ⟨by rw [HV.out]; rfl, hb.out⟩
end Go.Proofs.YtofccgkgjcnfbaaDoor
