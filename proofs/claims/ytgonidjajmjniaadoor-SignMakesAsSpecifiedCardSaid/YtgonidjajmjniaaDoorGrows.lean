/-
  The contracts of sign's seedLeaf and of the closure in grow; the mathematics of the nodes beside the way.
  Conditions: the seed has at most 2^20 bytes, the tree at most 64 leaves; the table of the round constants is as the text lays it.
-/
import Derived.Test.YtgonidjajmjniaaDoorChains
import Derived.Deep.RegionHeld
namespace Go.Proofs.YtgonidjajmjniaaDoor
open Go.RowKit Wr Sh
set_option linter.unusedVariables false
set_option maxRecDepth 100000

theorem leaf_rd (A : Option Addr) (T : List UInt8) (c N : Nat) (w : World) (hr : Rd w w.heap.size A (B8 T)) (hN : N = T.length) (h0 : 0 < N) (hl : N ≤ 1048576) (ht : Tab 1 w) (R : List UInt8) (hR : Hid (R = leafOf T)) :
    Calls Tryd.prog 40 #[.slice A N c] w fun e w' => e = .returned (.agg (B8 R).toArray) ∧ Below w.heap.size w w' := by
  subst hN
  obtain ⟨g, o, rfl, hg, hc⟩ := hr (by intro e; have := congrArg List.length e; rw [B8_len] at this; simp only [List.length_nil] at this; omega)
  exact leaf_any g o c T w hg hc hl ht R hR
/-- The result's block, and all that was there. -/
structure KeepZ (w : World) (g : Nat) (W : World) : Prop where
  z : Blk W g 23 Z16
  b : Below w.heap.size w W
theorem KeepZ.alloc {w W : World} {g : Nat} (h : KeepZ w g W) (o : Obj) : KeepZ w g (W.alloc o) := ⟨h.z.alloc _, h.b.alloc h.b.size _⟩
theorem KeepZ.drew {w W : World} {g : Nat} (h : KeepZ w g W) : KeepZ w g W.drew := ⟨h.z, h.b.drew⟩
theorem KeepZ.below {w W W' : World} {g : Nat} (h : KeepZ w g W) (hb : Below W.heap.size W W') : KeepZ w g W' := ⟨h.z.below hb h.z.lt, h.b.trans (hb.mono h.b.size)⟩
theorem KeepZ.row {w W : World} {g : Nat} (h : KeepZ w g W) (g' : Nat) (hg : g ≠ g') (hw : w.heap.size ≤ g') (R : Array Value) : KeepZ w g (W.setRow g' R) := ⟨h.z.setRow hg _, belowRow h.b hw _⟩
theorem KeepZ.grown {w W W' : World} {g : Nat} (h : KeepZ w g W) {row : Option Nat} (hg : W.grownBy W' row) (hr : ∀ q, row = some q → g + 1 ≤ q) (hw : w.heap.size ≤ g) : KeepZ w g W' :=
  ⟨h.z.grown hg (by intro e; have := hr g e.symm; omega), h.b.grown hg h.b.size (fun q hq => by have := hr q hq; omega)⟩

set_option maxHeartbeats 4000000 in
theorem seedLeaf_any (sd : ByteArray) (i : Int) (w : World) (hs : sd.size ≤ 1048576) (hi : okInt i) (ht : Tab 1 w) (R : List UInt8) (hR : Hid (R = sleaf sd.data.toList i)) :
    Calls Tryd.prog 45 #[.string sd, .int .i64 i] w fun e w' => e = .returned (.agg (B8 R).toArray) ∧ Below w.heap.size w w' := by
  obtain ⟨i0, hi0, hz0, hz1, hz2⟩ := info_parts Tryd.info5
  have HI5 := Lib.hid (And.intro hi0 (And.intro hz0 (And.intro hz1 hz2)))
  have HT := Lib.hid ht
  have HOI := Lib.hid hi
  have HRl := Lib.hid (show R.length = 16 by rw [hR.out]; exact dof_len _ _)
  have hZ := hZ16
  have KS := Lib.hid (show KeepZ w w.heap.size (w.alloc (.cells Z16.toArray 23)) from ⟨Blk.new w 23 Z16, (Below.refl _ _).alloc (Nat.le_refl _) _⟩)
  clear hi ht hi0 hz0 hz1 hz2
  go_enter Tryd.func45, Tryd.ntmps45
  go_wp2_with fail
  go_loopw [5, 8] (fun s5 s8 wr => ∃ c : Nat, c ≤ 68 ∧ s8 = .int .i64 (c : Int) ∧ Hid (wr.ownsRow (w.heap.size + 1) 5 1 s5 (16 * c) (B8 (topsOf sd.data.toList i c))) ∧ Hid (KeepZ w w.heap.size wr))
    (fun _ s8 _ => 68 - (intOf s8).toNat)
  case atStart => exact ⟨0, by omega, rfl, Lib.hid (World.ownsRow_nil _ _ _ _), KS⟩
  case round =>
  obtain ⟨c, hc, rfl, ho, hk⟩ := hrel
  clear KS
  obtain ⟨X, hX⟩ : ∃ X, X = topsOf sd.data.toList i c := ⟨_, rfl⟩
  rw [← hX] at ho
  by_cases hlt : c < 68
  · obtain ⟨D0, hD0⟩ : ∃ D, D = bot sd.data.toList i (c : Int) := ⟨_, rfl⟩
    obtain ⟨D, hD⟩ : ∃ D, D = adv i (c : Int) 0 D0 3 := ⟨_, rfl⟩
    have hl0 : D0.length = 16 := by rw [hD0]; exact bot_len _ _ _
    have hl3 : D.length = 16 := by rw [hD]; exact adv_len _ _ _ _ hl0 _
    have HX := Lib.hid (show X ++ D = topsOf sd.data.toList i (c + 1) by rw [tops_succ, hX, hD, hD0])
    have H0 := Lib.hid hD0
    have H3 := Lib.hid hD
    have L0 := Lib.hid hl0
    have L3 := Lib.hid hl3
    have HOC := Lib.hid (show okInt (c : Int) from ⟨by omega, by omega⟩)
    clear hD0 hD hl0 hl3 hX
    go_wp2_with fail
    refine (bottom_any sd i (c : Int) _ hs HOI.out HOC.out (HT.out.below hk.out.b HT.out.1) D0 H0).mono ?_; rintro e w1 ⟨rfl, hb1⟩
    have k1 := Lib.hid (hk.out.below hb1)
    have o1 := Lib.hid (own_below ho.out hb1)
    clear hb1
    go_wp2_with fail
    refine (advance_any D0 i (c : Int) 0 3 3 _ L0.out HOI.out HOC.out (by omega) (Lib.hid rfl) (by omega) (HT.out.below k1.out.b HT.out.1) D H3).mono ?_; rintro e w2 ⟨rfl, hb2⟩
    have k2 := Lib.hid (k1.out.below hb2)
    have o2 := Lib.hid (own_below o1.out hb2)
    clear hb2
    obtain ⟨W3, hW3⟩ : ∃ W, W = (w2.alloc (.cells Z16.toArray 23)).setRow w2.heap.size (B8 D).toArray := ⟨_, rfl⟩
    have k3 := Lib.hid (show KeepZ w w.heap.size W3 by rw [hW3]; exact (k2.out.alloc _).row _ (by have := k2.out.z.lt; omega) k2.out.b.size _)
    have o3 := Lib.hid (show W3.ownsRow (w.heap.size + 1) 5 1 u5 (16 * c) (B8 X) by
      rw [hW3]
      have := own_below o2.out (show Below w2.heap.size w2 ((w2.alloc (.cells Z16.toArray 23)).setRow w2.heap.size (B8 D).toArray) from belowRow ((Below.refl _ _).alloc (Nat.le_refl _) _) (Nat.le_refl _) _)
      exact this)
    have D3 := Lib.hid (show Blk W3 w2.heap.size 23 (B8 D) by rw [hW3]; exact (Blk.new w2 23 Z16).row _)
    have HW3 := Lib.hid hW3
    have HL := Lib.hid (show (B8 D).length = 16 * 1 by rw [B8_len, L3.out])
    have hsz : w.heap.size + 1 ≤ W3.heap.size := k3.out.z.lt
    clear hW3
    go_wp2_with (first
      | (with_reducible refine wpList_store_row rfl 23 (.tmp 7) (.tmp 17) rfl w2.heap.size (B8 D).toArray rfl rfl 23 _ (heap_alloc_new w2 _) (size23' _ L3.out) (Z16_size _ L3.out) (one8 _) ?_; rw [← HW3.out])
      | (at_builtin; refine wpList_append_own _ rfl (.tmp 18) (.tmp 19) 54 rfl (w.heap.size + 1) 5 i0 (.int .u8 0) 1 1 Tryd.underlying54 HI5.out.1 HI5.out.2.1 HI5.out.2.2.1 HI5.out.2.2.2 rfl (by decide) u5 (16 * c) (B8 X) rfl o3.out ⟨w2.heap.size, 0, none⟩ 16 16 (B8 D) rfl HL.out D3.out.at (B8_one _) (by unfold maxLen; omega) (by omega) hsz ?_; intro v4 w4 o4 hg4 _))
    have k4 := Lib.hid (k3.out.grown hg4 (fun q hq => (o3.out.lt q hq).1) (Nat.le_refl _))
    have o5 := Lib.hid (show w4.ownsRow (w.heap.size + 1) 5 1 v4 (16 * (c + 1)) (B8 (topsOf sd.data.toList i (c + 1))) by rw [← HX.out, B8_append]; exact o4)
    clear o4 hg4
    go_wp2_with fail
    go_roundw
    case rel => exact ⟨c + 1, by omega, by go_num, o5, k4⟩
    case measure => simp only [intOf]; omega
  · obtain rfl : c = 68 := by omega
    obtain ⟨A, cc, rfl, h1, h2, h3⟩ := own_form ho.out
    have hXl : X.length = 1088 := by rw [hX]; exact tops_len _ _ _
    have HXl := Lib.hid hXl
    have HR := Lib.hid (show R = leafOf X by rw [hR.out, hX]; rfl)
    have H3 := Lib.hid h3
    clear hX hXl h3 ho
    go_wp2_with fail
    refine (leaf_rd A X cc (16 * 68) _ H3.out (by rw [HXl.out]) (by omega) (by omega) (HT.out.below hk.out.b HT.out.1) R HR).mono ?_; rintro e w5 ⟨rfl, hb5⟩
    have k5 := Lib.hid (hk.out.below hb5)
    have K5 := Lib.hid (show w5.heap[w.heap.size]? = some (.cells Z16.toArray 23 (0, 0)) from k5.out.z)
    clear hb5
    go_wp2_with (with_reducible refine wpList_store_row rfl 23 (.tmp 4) (.tmp 23) rfl w.heap.size (B8 R).toArray rfl rfl 23 _ K5.out (size23' _ HRl.out) (Z16_size _ HRl.out) (one8 _) ?_)
    refine bodyPost_ret (v := .agg (B8 R).toArray) ?_ rfl ⟨rfl, belowRow k5.out.b (Nat.le_refl _) _⟩
    have hr := run_loadVar_row (P := Tryd.prog) _ w.heap.size 23 23 (B8 R).toArray (0, 0) (.array 16 5) (heap_setRow w5 w.heap.size (B8 R).toArray _ 23 K5.out) Tryd.underlying23 rfl (size23' _ HRl.out)
    simp [results, Tryd.results45, asAddr, hr, Act.put]
end Go.Proofs.YtgonidjajmjniaaDoor

namespace Go.Proofs.YtgonidjajmjniaaDoor
open Go.RowKit Wr Sh
set_option linter.unusedVariables false
set_option maxRecDepth 100000

/-- A digest written into a list of digests. -/
def upd (s : List UInt8) (ix l k : Nat) (L : List UInt8) : List UInt8 := if k = sib (ix / 2 ^ l) then splice L (16 * l) (node s l k) else L
/-- What the closure leaves of the list. -/
def gr (s : List UInt8) (ix : Nat) : Nat → Nat → List UInt8 → List UInt8
  | 0, k, L => upd s ix 0 k L
  | l + 1, k, L => upd s ix (l + 1) k (gr s ix l (2 * k + 1) (gr s ix l (2 * k) L))
theorem splice_len {α : Type} (L t : List α) (o : Nat) (h : o + t.length ≤ L.length) : (splice L o t).length = L.length := by
  unfold splice; simp; omega
theorem B8_splice (L t : List UInt8) (o : Nat) : B8 (splice L o t) = splice (B8 L) o (B8 t) := by
  unfold splice B8; simp
theorem sib_lt {n m : Nat} (h : sib n = m) : n / 2 = m / 2 ∧ n ≠ m := by unfold sib at h; split at h <;> omega
theorem sib_of {n m : Nat} (h : n / 2 = m / 2) (h2 : n ≠ m) : sib n = m := by unfold sib; split <;> omega
/-- A node at or below level l, whose number lies under k. -/
theorem upd_len (s : List UInt8) (ix l k h : Nat) (L : List UInt8) (hL : L.length = 16 * h) (hl : k = sib (ix / 2 ^ l) → l < h) : (upd s ix l k L).length = 16 * h := by
  unfold upd
  split
  · rename_i e
    have := hl e
    rw [splice_len _ _ _ (by rw [node_len]; omega), hL]
  · exact hL
theorem gr_len (s : List UInt8) (ix h : Nat) : ∀ (l k : Nat) (L : List UInt8), L.length = 16 * h → l ≤ h → (l = h → k ≠ sib (ix / 2 ^ l)) → (gr s ix l k L).length = 16 * h := by
  intro l
  induction l with
  | zero => intro k L hL hl hn; exact upd_len _ _ _ _ h _ hL (fun e => by rcases Nat.lt_or_ge 0 h with h0 | h0; exact h0; exact absurd e (hn (by omega)))
  | succ l ih =>
    intro k L hL hl hn
    refine upd_len _ _ _ _ h _ ?_ (fun e => by rcases Nat.lt_or_ge (l + 1) h with h0 | h0; exact h0; exact absurd e (hn (by omega)))
    exact ih _ _ (ih _ _ hL (by omega) (by omega)) (by omega) (by omega)
/-- The digest with a number. -/
def dig16 (L : List UInt8) (j : Nat) : List UInt8 := (L.drop (16 * j)).take 16
theorem dig_splice (L t : List UInt8) (l j h : Nat) (hL : L.length = 16 * h) (ht : t.length = 16) (hl : l < h) (hj : j < h) : dig16 (splice L (16 * l) t) j = if j = l then t else dig16 L j := by
  apply List.ext_getElem?
  intro i
  unfold dig16 splice
  rw [List.getElem?_take]
  rcases Nat.lt_or_ge i 16 with hi | hi
  · rw [if_pos hi, List.getElem?_drop]
    rcases Nat.lt_trichotomy j l with hjl | hjl | hjl
    · rw [if_neg (by omega), List.getElem?_append_left (by simp; omega), List.getElem?_take, if_pos (by omega), List.getElem?_take, if_pos hi, List.getElem?_drop]
    · subst hjl
      rw [if_pos rfl, List.getElem?_append_right (by simp; omega), List.getElem?_append_left (by simp; omega)]
      congr 1; simp; omega
    · rw [if_neg (by omega), List.getElem?_append_right (by simp; omega), List.getElem?_append_right (by simp; omega), List.getElem?_drop, List.getElem?_take, if_pos hi, List.getElem?_drop]
      congr 1; simp; omega
  · rw [if_neg (by omega)]
    split
    · rw [List.getElem?_eq_none (by omega)]
    · rw [List.getElem?_eq_none (by rw [List.length_take]; omega)]
theorem pow_div (ix j d : Nat) : ix / 2 ^ j / 2 ^ d = ix / 2 ^ (j + d) := by rw [Nat.div_div_eq_div_mul, Nat.pow_add]
/-- What the closure leaves at each level: the node beside the way, if it lies under k; else what was there. -/
theorem gr_dig (s : List UInt8) (ix h : Nat) : ∀ (l k : Nat) (L : List UInt8), L.length = 16 * h → l ≤ h → (l = h → k ≠ sib (ix / 2 ^ l)) → ∀ j, j < h →
    dig16 (gr s ix l k L) j = if j ≤ l ∧ sib (ix / 2 ^ j) / 2 ^ (l - j) = k then node s j (sib (ix / 2 ^ j)) else dig16 L j := by
  intro l
  induction l with
  | zero =>
    intro k L hL hl hn j hj
    show dig16 (upd s ix 0 k L) j = _
    unfold upd
    by_cases e : k = sib (ix / 2 ^ 0)
    · rw [if_pos e, dig_splice L _ 0 j h hL (node_len _ _ _) (by omega) hj]
      by_cases hj0 : j = 0
      · subst hj0; rw [if_pos rfl, if_pos (by simp; rw [e]; simp), e]
      · rw [if_neg hj0, if_neg (by omega)]
    · rw [if_neg e, if_neg]
      rintro ⟨h1, h2⟩
      have : j = 0 := by omega
      subst this
      simp at h2
      exact e (by rw [← h2]; simp)
  | succ l ih =>
    intro k L hL hl hn j hj
    have hl1 : (gr s ix l (2 * k) L).length = 16 * h := gr_len s ix h l _ L hL (by omega) (by omega)
    have hl2 : (gr s ix l (2 * k + 1) (gr s ix l (2 * k) L)).length = 16 * h := gr_len s ix h l _ _ hl1 (by omega) (by omega)
    have h1 := ih (2 * k) L hL (by omega) (by omega) j hj
    have h2 := ih (2 * k + 1) _ hl1 (by omega) (by omega) j hj
    show dig16 (upd s ix (l + 1) k _) j = _
    have hmid : dig16 (gr s ix l (2 * k + 1) (gr s ix l (2 * k) L)) j = if j ≤ l ∧ sib (ix / 2 ^ j) / 2 ^ (l + 1 - j) = k then node s j (sib (ix / 2 ^ j)) else dig16 L j := by
      rw [h2, h1]
      by_cases hjl : j ≤ l
      · have e : sib (ix / 2 ^ j) / 2 ^ (l + 1 - j) = sib (ix / 2 ^ j) / 2 ^ (l - j) / 2 := by
          rw [show l + 1 - j = (l - j) + 1 by omega, Nat.pow_succ, Nat.div_div_eq_div_mul]
        rw [e]
        generalize sib (ix / 2 ^ j) / 2 ^ (l - j) = x
        by_cases hx : x = 2 * k + 1
        · rw [if_pos ⟨hjl, hx⟩, if_pos ⟨hjl, by omega⟩]
        · rw [if_neg (by omega)]
          by_cases hx2 : x = 2 * k
          · rw [if_pos ⟨hjl, hx2⟩, if_pos ⟨hjl, by omega⟩]
          · rw [if_neg (by omega), if_neg (by omega)]
      · rw [if_neg (by omega), if_neg (by omega), if_neg (by omega)]
    unfold upd
    by_cases e : k = sib (ix / 2 ^ (l + 1))
    · rw [if_pos e]
      have hlt : l + 1 < h := by rcases Nat.lt_or_ge (l + 1) h with h0 | h0; exact h0; exact absurd e (hn (by omega))
      rw [dig_splice _ _ (l + 1) j h hl2 (node_len _ _ _) hlt hj]
      by_cases hj1 : j = l + 1
      · subst hj1; rw [if_pos rfl, if_pos ⟨Nat.le_refl _, by simp; exact e.symm⟩, e]
      · rw [if_neg hj1, hmid]
        by_cases hjl : j ≤ l
        · by_cases hx : sib (ix / 2 ^ j) / 2 ^ (l + 1 - j) = k
          · rw [if_pos ⟨hjl, hx⟩, if_pos ⟨by omega, hx⟩]
          · rw [if_neg (by simp [hx]), if_neg (by simp [hx])]
        · rw [if_neg (by omega), if_neg (by omega)]
    · rw [if_neg e, hmid]
      by_cases hj1 : j = l + 1
      · subst hj1
        rw [if_neg (by omega), if_neg]
        rintro ⟨_, hx⟩
        simp at hx
        exact e hx.symm
      · by_cases hjl : j ≤ l
        · by_cases hx : sib (ix / 2 ^ j) / 2 ^ (l + 1 - j) = k
          · rw [if_pos ⟨hjl, hx⟩, if_pos ⟨by omega, hx⟩]
          · rw [if_neg (by simp [hx]), if_neg (by simp [hx])]
        · rw [if_neg (by omega), if_neg (by omega)]
theorem dig_flat (f : Nat → List UInt8) (hf : ∀ j, (f j).length = 16) : ∀ (h : Nat) (L : List UInt8), L.length = 16 * h → (∀ j, j < h → dig16 L j = f j) → L = ((List.range h).map f).flatten := by
  intro h
  induction h with
  | zero => intro L hL _; simp at hL; simp [hL]
  | succ h ih =>
    intro L hL hd
    have h1 := ih (L.take (16 * h)) (by simp; omega) (fun j hj => by
      rw [← hd j (by omega)]
      unfold dig16
      rw [List.drop_take, List.take_take, Nat.min_eq_left (by omega)])
    rw [List.range_succ, List.map_append, List.flatten_append, ← h1]
    simp only [List.map_cons, List.map_nil, List.flatten_cons, List.flatten_nil, List.append_nil]
    rw [← hd h (by omega)]
    unfold dig16
    rw [List.take_of_length_le (l := L.drop (16 * h)) (by rw [List.length_drop]; omega), List.take_append_drop]
/-- The whole tree: the nodes beside the way. -/
theorem gr_all (s : List UInt8) (ix h : Nat) (hx : ix < 2 ^ h) (L : List UInt8) (hL : L.length = 16 * h) : gr s ix h 0 L = bes s ix h := by
  have h0 : ix / 2 ^ h = 0 := Nat.div_eq_of_lt hx
  have hn : h = h → 0 ≠ sib (ix / 2 ^ h) := fun _ => by rw [h0]; simp [sib]
  refine dig_flat (fun l => node s l (sib (ix / 2 ^ l))) (fun j => node_len _ _ _) h _ (gr_len s ix h h 0 L hL (Nat.le_refl _) hn) (fun j hj => ?_)
  rw [gr_dig s ix h h 0 L hL (Nat.le_refl _) hn j hj, if_pos]
  refine ⟨by omega, ?_⟩
  have hs : sib (ix / 2 ^ j) / 2 = ix / 2 ^ j / 2 := by
    have := sib_lt (n := ix / 2 ^ j) rfl; omega
  have e : sib (ix / 2 ^ j) / 2 ^ (h - j) = sib (ix / 2 ^ j) / 2 / 2 ^ (h - j - 1) := by
    rw [Nat.div_div_eq_div_mul, ← Nat.pow_succ', show (h - j - 1).succ = h - j by omega]
  rw [e, hs, Nat.div_div_eq_div_mul, ← Nat.pow_succ', pow_div, show j + (h - j - 1).succ = h by omega, h0]
end Go.Proofs.YtgonidjajmjniaaDoor

namespace Go.Proofs.YtgonidjajmjniaaDoor
open Go.RowKit Wr Sh
set_option linter.unusedVariables false
set_option maxRecDepth 100000

/-- What the closure sees. -/
structure Env (w : World) (gs gn gi gb G h ix : Nat) (sd : ByteArray) : Prop where
  cs : w.cell? ⟨gs, 0, none⟩ = some (.string sd)
  cn : w.cell? ⟨gn, 0, none⟩ = some (.func (.func 44) #[] #[.pointer (some ⟨gs, 0, none⟩), .pointer (some ⟨gn, 0, none⟩), .pointer (some ⟨gi, 0, none⟩), .pointer (some ⟨gb, 0, none⟩)])
  ci : w.cell? ⟨gi, 0, none⟩ = some (.int .i64 (ix : Int))
  cb : w.cell? ⟨gb, 0, none⟩ = some (.slice (some ⟨G, 0, none⟩) h h)
  ls : gs < w.heap.size ∧ gs ≠ G
  ln : gn < w.heap.size ∧ gn ≠ G
  li : gi < w.heap.size ∧ gi ≠ G
  lb : gb < w.heap.size ∧ gb ≠ G
  hG : G < w.heap.size
theorem grown_cell {w w' : World} {G g : Nat} (hg : w.grownBy w' (some G)) (h : g < w.heap.size ∧ g ≠ G) : w'.cell? ⟨g, 0, none⟩ = w.cell? ⟨g, 0, none⟩ :=
  World.cell?_of_block (hg.block g h.1 (by intro e; injection e with e; exact h.2 e))
theorem Env.grown {w w' : World} {gs gn gi gb G h ix : Nat} {sd : ByteArray} (e : Env w gs gn gi gb G h ix sd) (hg : w.grownBy w' (some G)) : Env w' gs gn gi gb G h ix sd :=
  ⟨(grown_cell hg e.ls).trans e.cs, (grown_cell hg e.ln).trans e.cn, (grown_cell hg e.li).trans e.ci, (grown_cell hg e.lb).trans e.cb,
    ⟨Nat.lt_of_lt_of_le e.ls.1 hg.size, e.ls.2⟩, ⟨Nat.lt_of_lt_of_le e.ln.1 hg.size, e.ln.2⟩, ⟨Nat.lt_of_lt_of_le e.li.1 hg.size, e.li.2⟩, ⟨Nat.lt_of_lt_of_le e.lb.1 hg.size, e.lb.2⟩, Nat.lt_of_lt_of_le e.hG hg.size⟩
theorem grown_refl (w : World) (r : Option Nat) : w.grownBy w r := ⟨rfl, rfl, rfl, Nat.le_refl _, fun _ _ _ => rfl⟩
theorem grown_trans {a b c : World} {r : Option Nat} (h1 : a.grownBy b r) (h2 : b.grownBy c r) : a.grownBy c r :=
  ⟨h2.os.trans h1.os, h2.tape.trans h1.tape, h2.output.trans h1.output, Nat.le_trans h1.size h2.size, fun k hk hr => (h2.block k (Nat.lt_of_lt_of_le hk h1.size) hr).trans (h1.block k hk hr)⟩
theorem grown_below {w w' : World} (r : Option Nat) (h : Below w.heap.size w w') : w.grownBy w' r := ⟨h.os, h.tape, h.output, h.size, fun k hk _ => h.block k hk⟩
theorem grown_setRow {a w : World} {G : Nat} (h : a.grownBy w (some G)) (cs : Array Value) : a.grownBy (w.setRow G cs) (some G) :=
  grown_trans h ⟨rfl, rfl, rfl, by simp, fun k hk hr => heap_setRow_other _ _ _ _ (by intro e; exact hr (by rw [e]))⟩
theorem grown_setRow' {a w : World} {G g : Nat} (h : a.grownBy w (some G)) (hg : a.heap.size ≤ g) (cs : Array Value) : a.grownBy (w.setRow g cs) (some G) :=
  ⟨h.os, h.tape, h.output, by simpa using h.size, fun k hk hr => (heap_setRow_other _ _ _ _ (by omega)).trans (h.block k hk hr)⟩
theorem Tab.grown {w w' : World} {G : Nat} (h : Tab 1 w) (hg : w.grownBy w' (some G)) (hG : G ≠ 1) : Tab 1 w' :=
  ⟨Nat.lt_of_lt_of_le h.1 hg.size, fun t ht => (World.cell?_of_block (a := ⟨1, t, none⟩) (hg.block 1 h.1 (by intro e; injection e with e; exact hG e.symm))).trans (h.2 t ht)⟩
theorem Blk.grown' {w w' : World} {g G : Nat} {t : TypeId} {cs : List Value} (h : Blk w g t cs) (hg : w.grownBy w' (some G)) (hne : g ≠ G) : Blk w' g t cs :=
  h.grown hg (by intro e; injection e with e; exact hne e)
theorem xor1 (n : Nat) (h : n < 4294967296) : bits .xor .i64 (n : Int) 1 = ((sib n : Nat) : Int) := by
  have hm : (BitVec.ofInt 64 (n : Int) ^^^ BitVec.ofInt 64 1).toNat = sib n := by
    rw [BitVec.toNat_xor, show (BitVec.ofInt 64 1).toNat = 1 by decide, BitVec.toNat_ofInt]
    have e : ((n : Int) % ((2 ^ 64 : Nat) : Int)).toNat = n := by
      rw [show ((2 ^ 64 : Nat) : Int) = 18446744073709551616 by decide]; omega
    rw [e]
    unfold sib
    have h2 : n ^^^ 1 = 2 * (n / 2) + (1 - n % 2) := by
      apply Nat.eq_of_testBit_eq
      intro i
      rw [Nat.testBit_xor]
      cases i with
      | zero => simp [Nat.testBit_zero]; rcases Nat.mod_two_eq_zero_or_one n with h0 | h0 <;> simp [h0]
      | succ i =>
        rw [Nat.testBit_succ, Nat.testBit_succ, Nat.testBit_succ]
        have : (2 * (n / 2) + (1 - n % 2)) / 2 = n / 2 := by omega
        rw [this]; simp
    rw [h2]; split <;> omega
  show IntKind.i64.wrap ((BitVec.ofInt 64 (n : Int) ^^^ BitVec.ofInt 64 1).toNat : Int) = _
  rw [hm, IntKind.wrap_i64]
  have : sib n ≤ n + 1 := by unfold sib; split <;> omega
  omega

set_option maxHeartbeats 4000000 in
theorem grow0_any (sd : ByteArray) (ix h gs gn gi gb G k : Nat) (w : World) (L : List UInt8) (hs : sd.size ≤ 1048576) (hix : ix < 64) (hh : h ≤ 6) (hk6 : k < 64) (hL : L.length = 16 * h) (hq : k = sib (ix / 2 ^ 0) → 0 < h) (he : Env w gs gn gi gb G h ix sd) (hb : Blk w G 23 (B8 L)) (ht : Tab 1 w) (hG1 : G ≠ 1)
    (D : List UInt8) (hDn : D = node sd.data.toList 0 k) (L' : List UInt8) (hL' : L' = upd sd.data.toList ix 0 k L) :
    Calls Tryd.prog 44 #[.int .i64 0, .int .i64 k, .pointer (some ⟨gs, 0, none⟩), .pointer (some ⟨gn, 0, none⟩), .pointer (some ⟨gi, 0, none⟩), .pointer (some ⟨gb, 0, none⟩)] w fun e w' => e = .returned (.agg (B8 D).toArray) ∧ Blk w' G 23 (B8 L') ∧ w.grownBy w' (some G) := by
  obtain ⟨q, hq0⟩ : ∃ q : Nat, q = 0 := ⟨_, rfl⟩
  have hx : bits .xor .i64 ((ix : Int)) 1 = ((sib (ix / 2 ^ q) : Nat) : Int) := by rw [hq0, xor1 _ (by omega)]; simp
  have HQ := Lib.hid (show q ≤ h ∧ (k = sib (ix / 2 ^ q) → q < h) by rw [hq0]; exact ⟨Nat.zero_le _, hq⟩)
  have HDl := Lib.hid (show D.length = 16 by rw [hDn]; exact node_len _ _ _)
  have HQ0 := Lib.hid hq0
  have HDn := Lib.hid (show D = node sd.data.toList q k by rw [hq0]; exact hDn)
  have HD0 := Lib.hid (show D = sleaf sd.data.toList (k : Int) from hDn)
  have HL' := Lib.hid (show L' = upd sd.data.toList ix q k L by rw [hq0]; exact hL')
  have HT := Lib.hid ht
  have HE := Lib.hid he
  have HBL := Lib.hid hb
  have HL3 := Lib.hid hL
  have hZ := hZ16
  obtain ⟨W1, hW1⟩ : ∃ W, W = (w.alloc (.cells Z16.toArray 23)).alloc (.cells Z16.toArray 23) := ⟨_, rfl⟩
  have B1 := Lib.hid (show Below w.heap.size w W1 by rw [hW1]; exact ((Below.refl _ _).alloc (Nat.le_refl _) _).alloc (by simp) _)
  have KZ1 := Lib.hid (show Blk W1 w.heap.size 23 Z16 by rw [hW1]; exact (Blk.new w 23 Z16).alloc _)
  have KD1 := Lib.hid (show Blk W1 (w.heap.size + 1) 23 Z16 by rw [hW1]; exact Blk.newAt _ _ 23 Z16 (by simp))
  have E1 := Lib.hid (he.grown (grown_below (some G) B1.out))
  have KG1 := Lib.hid (hb.below B1.out he.hG)
  have HW := Lib.hid hW1
  have e2 := E1.out.cs
  rw [hW1] at e2
  clear hq hL ht he hb hDn hL' hW1 hq0
  go_enter Tryd.func44, Tryd.ntmps44
  go_wp2_with fail
  rw [← HW.out]
  refine (seedLeaf_any sd (k : Int) W1 hs ⟨by omega, by omega⟩ (HT.out.below B1.out HT.out.1) D HD0).mono ?_; rintro e w2 ⟨rfl, hb2⟩
  obtain ⟨W3, hW3⟩ : ∃ W, W = w2.setRow (w.heap.size + 1) (B8 D).toArray := ⟨_, rfl⟩
  have b2 : Below w.heap.size w w2 := B1.out.trans (hb2.mono B1.out.size)
  have b3 : Below w.heap.size w W3 := by rw [hW3]; exact belowRow b2 (by omega) _
  have K2 := Lib.hid (show w2.heap[w.heap.size + 1]? = some (.cells Z16.toArray 23 (0, 0)) from KD1.out.below hb2 KD1.out.lt)
  have KD := Lib.hid (show Blk W3 (w.heap.size + 1) 23 (B8 D) by rw [hW3]; exact Blk.row (show Blk w2 (w.heap.size + 1) 23 Z16 from K2.out) _)
  have KZ := Lib.hid (show Blk W3 w.heap.size 23 Z16 by rw [hW3]; exact (KZ1.out.below hb2 KZ1.out.lt).setRow (by omega) _)
  have KG := Lib.hid (show Blk W3 G 23 (B8 L) from HBL.out.below b3 HE.out.hG)
  have F3 := Lib.hid (grown_below (some G) b3)
  have E3 := Lib.hid (HE.out.grown F3.out)
  have HW3 := Lib.hid hW3
  clear hb2 hW3 b2 b3 e2
  by_cases hk : k = sib (ix / 2 ^ q)
  · have hS : ((k : Int) == ((sib (ix / 2 ^ q) : Nat) : Int)) = true := by rw [beq_iff_eq]; omega
    have hqh : q < h := HQ.out.2 hk
    have hfit := Lib.hid (show 0 + (B8 D).length ≤ (B8 L).length by rw [B8_len, B8_len, HDl.out, HL3.out]; omega)
    have HU := Lib.hid (show splice (B8 L) 0 (B8 D) = B8 L' by rw [show (0 : Nat) = 16 * q by rw [HQ0.out]]; rw [← B8_splice, HL'.out, upd, if_pos hk, ← HDn.out])
    have e5 := E3.out.cb
    have e4 := E3.out.ci
    have HLD := Lib.hid KD.out.at
    have HG3 := Lib.hid (show W3.heap[G]? = some (.cells (B8 L).toArray 23 (0, 0)) from KG.out)
    obtain ⟨W4, hW4⟩ : ∃ W, W = W3.setRow G (B8 L').toArray := ⟨_, rfl⟩
    have KG4 := Lib.hid (show Blk W4 G 23 (B8 L') by rw [hW4]; exact KG.out.row _)
    have F4 := Lib.hid (show w.grownBy W4 (some G) by rw [hW4]; exact grown_setRow F3.out _)
    have KZ4 := Lib.hid (show W4.heap[w.heap.size]? = some (.cells Z16.toArray 23 (0, 0)) by rw [hW4]; exact KZ.out.setRow (show w.heap.size ≠ G by have := HE.out.hG; omega) (B8 L').toArray)
    have HLD4 := Lib.hid (show ∀ j v, (B8 D)[j]? = some v → W4.cell? ((⟨w.heap.size + 1, 0, none⟩ : Addr).add j) = some v by rw [hW4]; exact (KD.out.setRow (show w.heap.size + 1 ≠ G by have := HE.out.hG; omega) (B8 L').toArray).at)
    have HW4 := Lib.hid hW4
    have HSb : Hid ((sib (ix / 2 ^ q) : Nat) = k) := Lib.hid hk.symm
    have hq63 : q ≤ 6 := by have := HQ.out.1; omega
    generalize sib (ix / 2 ^ q) = S at hS hx
    clear hk hW4
    go_wp2_with (first
      | (with_reducible refine wpList_store_row rfl 23 (.tmp 9) (.tmp 14) rfl (w.heap.size + 1) (B8 D).toArray rfl rfl 23 _ K2.out (size23' _ HDl.out) (Z16_size _ HDl.out) (one8 _) ?_; rw [← HW3.out])
      | (with_reducible refine wpList_load_at rfl 23 (.tmp 9) rfl ⟨w.heap.size + 1, 0, none⟩ rfl (B8 D) (.array 16 5) HLD.out Tryd.underlying23 rfl (size23 _ HDl.out) ?_)
      | (with_reducible refine wpList_load_at rfl 23 (.tmp 9) rfl ⟨w.heap.size + 1, 0, none⟩ rfl (B8 D) (.array 16 5) HLD4.out Tryd.underlying23 rfl (size23 _ HDl.out) ?_)
      | (refine wpList_store_at rfl 23 (.tmp 38) (.tmp 37) rfl G 0 (B8 D) rfl rfl 23 (B8 L) HG3.out (size23 _ HDl.out) hfit.out (B8_one _) ?_; rw [HU.out, ← HW4.out])
      | (with_reducible refine wpList_store_row rfl 23 (.tmp 8) (.tmp 39) rfl w.heap.size (B8 D).toArray rfl rfl 23 _ KZ4.out (size23' _ HDl.out) (Z16_size _ HDl.out) (one8 _) ?_))
    refine bodyPost_ret (v := .agg (B8 D).toArray) ?_ rfl ⟨rfl, KG4.out.setRow (show G ≠ w.heap.size by have := HE.out.hG; omega) _, grown_setRow' F4.out (Nat.le_refl _) _⟩
    have hr := run_loadVar_row (P := Tryd.prog) _ w.heap.size 23 23 (B8 D).toArray (0, 0) (.array 16 5) (heap_setRow W4 w.heap.size (B8 D).toArray _ 23 KZ4.out) Tryd.underlying23 rfl (size23' _ HDl.out)
    simp [results, Tryd.results44, asAddr, hr, Act.put]
  · have hS : ((k : Int) == ((sib (ix / 2 ^ q) : Nat) : Int)) = false := by rw [beq_eq_false_iff_ne]; omega
    have HU := Lib.hid (show L = L' by rw [HL'.out, upd, if_neg hk])
    have e4 := E3.out.ci
    have HLD := Lib.hid KD.out.at
    have KZ3 := Lib.hid (show W3.heap[w.heap.size]? = some (.cells Z16.toArray 23 (0, 0)) from KZ.out)
    have hq63 : q ≤ 6 := by have := HQ.out.1; omega
    generalize sib (ix / 2 ^ q) = S at hS hx
    clear hk
    go_wp2_with (first
      | (with_reducible refine wpList_store_row rfl 23 (.tmp 9) (.tmp 14) rfl (w.heap.size + 1) (B8 D).toArray rfl rfl 23 _ K2.out (size23' _ HDl.out) (Z16_size _ HDl.out) (one8 _) ?_; rw [← HW3.out])
      | (with_reducible refine wpList_load_at rfl 23 (.tmp 9) rfl ⟨w.heap.size + 1, 0, none⟩ rfl (B8 D) (.array 16 5) HLD.out Tryd.underlying23 rfl (size23 _ HDl.out) ?_)
      | (with_reducible refine wpList_store_row rfl 23 (.tmp 8) (.tmp 39) rfl w.heap.size (B8 D).toArray rfl rfl 23 _ KZ3.out (size23' _ HDl.out) (Z16_size _ HDl.out) (one8 _) ?_))
    refine bodyPost_ret (v := .agg (B8 D).toArray) ?_ rfl ⟨rfl, by rw [← HU.out]; exact KG.out.setRow (show G ≠ w.heap.size by have := HE.out.hG; omega) _, grown_setRow' F3.out (Nat.le_refl _) _⟩
    have hr := run_loadVar_row (P := Tryd.prog) _ w.heap.size 23 23 (B8 D).toArray (0, 0) (.array 16 5) (heap_setRow W3 w.heap.size (B8 D).toArray _ 23 KZ3.out) Tryd.underlying23 rfl (size23' _ HDl.out)
    simp [results, Tryd.results44, asAddr, hr, Act.put]
end Go.Proofs.YtgonidjajmjniaaDoor

namespace Go.Proofs.YtgonidjajmjniaaDoor
open Go.RowKit Wr Sh
set_option linter.unusedVariables false
set_option maxRecDepth 100000

theorem _root_.Go.World.grownBy.drew' {a w : World} {r : Option Nat} (h : a.grownBy w r) : a.grownBy w.drew r := ⟨h.os, h.tape, h.output, h.size, h.block⟩

set_option maxHeartbeats 4000000 in
theorem grow_any (sd : ByteArray) (ix h gs gn gi gb G : Nat) (hs : sd.size ≤ 1048576) (hix : ix < 64) (hh : h ≤ 6) (hG1 : G ≠ 1) : ∀ (l k : Nat) (w : World) (L : List UInt8), l ≤ h → (k + 1) * 2 ^ l ≤ 64 → L.length = 16 * h → (l = h → k ≠ sib (ix / 2 ^ l)) → Env w gs gn gi gb G h ix sd → Blk w G 23 (B8 L) → Tab 1 w →
    ∀ D, D = node sd.data.toList l k → ∀ L', L' = gr sd.data.toList ix l k L →
    Calls Tryd.prog 44 #[.int .i64 (l : Int), .int .i64 (k : Int), .pointer (some ⟨gs, 0, none⟩), .pointer (some ⟨gn, 0, none⟩), .pointer (some ⟨gi, 0, none⟩), .pointer (some ⟨gb, 0, none⟩)] w fun e w' => e = .returned (.agg (B8 D).toArray) ∧ Blk w' G 23 (B8 L') ∧ w.grownBy w' (some G) := by
  intro l
  induction l with
  | zero =>
    intro k w L hl hk hL hn he hb ht D hD L' hL'
    exact grow0_any sd ix h gs gn gi gb G k w L hs hix hh (by simp at hk; omega) hL (fun e => by rcases Nat.lt_or_ge 0 h with h0 | h0; exact h0; exact absurd e (hn (by omega))) he hb ht hG1 D hD L' hL'
  | succ l ih =>
    intro k w L hl hk hL hn he hb ht D hD L' hL'
    have h2k : (2 * k + 2) * 2 ^ l ≤ 64 := by
      have e : (k + 1) * 2 ^ (l + 1) = (2 * k + 2) * 2 ^ l := by rw [Nat.pow_succ, Nat.mul_comm (2 ^ l) 2, ← Nat.mul_assoc, Nat.add_mul, Nat.mul_comm k 2]
      omega
    have hp : 1 ≤ 2 ^ l := Nat.one_le_two_pow
    have hk31 : 2 * k + 2 ≤ 64 := Nat.le_trans (Nat.le_mul_of_pos_right _ hp) h2k
    have h2k1 : (2 * k + 1) * 2 ^ l ≤ 64 := Nat.le_trans (Nat.mul_le_mul_right _ (by omega)) h2k
    obtain ⟨q, hq0⟩ : ∃ q : Nat, q = l + 1 := ⟨_, rfl⟩
    rw [show ((l + 1 : Nat) : Int) = (q : Int) by rw [hq0]]
    have hq1 : 1 ≤ q := by omega
    have hq6 : q ≤ 6 := by omega
    have q1 : IntKind.i64.wrap ((q : Int) - 1) = (q : Int) - 1 := IntWalk.i64_in _ (by omega)
    have q2 : IntKind.i64.wrap (2 * (k : Int)) = 2 * (k : Int) := IntWalk.i64_in _ (by omega)
    have q3 : IntKind.i64.wrap (2 * (k : Int) + 1) = 2 * (k : Int) + 1 := IntWalk.i64_in _ (by omega)
    have hne0 : ((q : Int) == 0) = false := by rw [beq_eq_false_iff_ne]; omega
    have hx : bits .xor .i64 ((ix : Int) / 2 ^ q) 1 = ((sib (ix / 2 ^ q) : Nat) : Int) := by
      have : (ix : Int) / 2 ^ q = ((ix / 2 ^ q : Nat) : Int) := by rw [Int.natCast_ediv, Int.natCast_pow]; rfl
      rw [this, xor1 _ (Nat.lt_of_le_of_lt (Nat.div_le_self _ _) (by omega))]
    have HIH := Lib.hid (show ∀ (k' : Nat) (kI : Int), kI = (k' : Int) → ∀ (W : World) (L0 : List UInt8), L0.length = 16 * h → k' ≤ 2 * k + 1 → Env W gs gn gi gb G h ix sd → Blk W G 23 (B8 L0) → Tab 1 W → ∀ D, D = node sd.data.toList l k' → ∀ L', L' = gr sd.data.toList ix l k' L0 →
        Calls Tryd.prog 44 #[.int .i64 ((q : Int) - 1), .int .i64 kI, .pointer (some ⟨gs, 0, none⟩), .pointer (some ⟨gn, 0, none⟩), .pointer (some ⟨gi, 0, none⟩), .pointer (some ⟨gb, 0, none⟩)] W fun e w' => e = .returned (.agg (B8 D).toArray) ∧ Blk w' G 23 (B8 L') ∧ W.grownBy w' (some G) from by
      rintro k' kI rfl W L0 hL0 hk' he' hb' ht' D hD L' hL'
      have e1 : (q : Int) - 1 = (l : Int) := by omega
      rw [e1]
      exact ih k' W L0 (by omega) (Nat.le_trans (Nat.mul_le_mul_right _ (by omega)) h2k) hL0 (by omega) he' hb' ht' D hD L' hL')
    have HQ := Lib.hid (show q ≤ h ∧ (k = sib (ix / 2 ^ q) → q < h) by rw [hq0]; exact ⟨hl, fun e => by rcases Nat.lt_or_ge (l + 1) h with h0 | h0; exact h0; exact absurd e (hn (by omega))⟩)
    obtain ⟨D1, hD1⟩ : ∃ D, D = node sd.data.toList l (2 * k) := ⟨_, rfl⟩
    obtain ⟨D2, hD2⟩ : ∃ D, D = node sd.data.toList l (2 * k + 1) := ⟨_, rfl⟩
    obtain ⟨L1, hL1⟩ : ∃ L1, L1 = gr sd.data.toList ix l (2 * k) L := ⟨_, rfl⟩
    obtain ⟨L2, hL2⟩ : ∃ L2, L2 = gr sd.data.toList ix l (2 * k + 1) L1 := ⟨_, rfl⟩
    have hl1 : L1.length = 16 * h := by rw [hL1]; exact gr_len _ _ _ _ _ _ hL (by omega) (by omega)
    have hl2 : L2.length = 16 * h := by rw [hL2]; exact gr_len _ _ _ _ _ _ hl1 (by omega) (by omega)
    have HDj := Lib.hid (show D = nodeOf D1 D2 by rw [hD, hD1, hD2]; rfl)
    have HDl := Lib.hid (show D.length = 16 by rw [hD]; exact node_len _ _ _)
    have HD1l := Lib.hid (show D1.length = 16 by rw [hD1]; exact node_len _ _ _)
    have HD2l := Lib.hid (show D2.length = 16 by rw [hD2]; exact node_len _ _ _)
    have HDn := Lib.hid (show D = node sd.data.toList q k by rw [hq0]; exact hD)
    have HL' := Lib.hid (show L' = upd sd.data.toList ix q k L2 by rw [hq0, hL2, hL1]; exact hL')
    have HD1 := Lib.hid hD1
    have HD2 := Lib.hid hD2
    have HL1 := Lib.hid hL1
    have HL2 := Lib.hid hL2
    have HL := Lib.hid hL
    have HL1l := Lib.hid hl1
    have HL3 := Lib.hid hl2
    have HT := Lib.hid ht
    have HE := Lib.hid he
    have HNE := Lib.hid (show w.heap.size + 1 ≠ G ∧ w.heap.size ≠ G by have := he.hG; omega)
    have hZ := hZ16
    obtain ⟨W1, hW1⟩ : ∃ W, W = (w.alloc (.cells Z16.toArray 23)).alloc (.cells Z16.toArray 23) := ⟨_, rfl⟩
    have b1 : Below w.heap.size w W1 := by rw [hW1]; exact ((Below.refl _ _).alloc (Nat.le_refl _) _).alloc (by simp) _
    have KZ1 := Lib.hid (show Blk W1 w.heap.size 23 Z16 by rw [hW1]; exact (Blk.new w 23 Z16).alloc _)
    have KD1 := Lib.hid (show Blk W1 (w.heap.size + 1) 23 Z16 by rw [hW1]; exact Blk.newAt _ _ 23 Z16 (by simp))
    have F1 := Lib.hid (grown_below (some G) b1)
    have E1 := Lib.hid (he.grown F1.out)
    have KG1 := Lib.hid (hb.below b1 he.hG)
    have HW := Lib.hid hW1
    clear hL hn he hb ht hD hL' hD1 hD2 hL1 hL2 hl1 hl2 hW1 b1 hq0 ih hp h2k h2k1 hk hl
    go_enter Tryd.func44, Tryd.ntmps44
    go_wp2_with fail
    rw [← HW.out]
    refine wp_region_held (S := fun W => W.cell? ⟨gn, 0, none⟩ = some (.func (.func 44) #[] #[.pointer (some ⟨gs, 0, none⟩), .pointer (some ⟨gn, 0, none⟩), .pointer (some ⟨gi, 0, none⟩), .pointer (some ⟨gb, 0, none⟩)])) (by kernel_rfl) ?_
    change wpAnyH _ _ _ _ _ _ _ _ (World.drew W1)
    have hS0 : (World.drew W1).cell? ⟨gn, 0, none⟩ = some (.func (.func 44) #[] #[.pointer (some ⟨gs, 0, none⟩), .pointer (some ⟨gn, 0, none⟩), .pointer (some ⟨gi, 0, none⟩), .pointer (some ⟨gb, 0, none⟩)]) := E1.out.cn
    have FD := F1.out.drew'
    have ED := Lib.hid (HE.out.grown FD)
    have KDd : Blk (World.drew W1) (w.heap.size + 1) 23 Z16 := KD1.out
    have KZd : Blk (World.drew W1) w.heap.size 23 Z16 := KZ1.out
    have KGd : Blk (World.drew W1) G 23 (B8 L) := KG1.out
    generalize World.drew W1 = Wd at hS0 FD ED KDd KZd KGd ⊢
    replace FD := Lib.hid FD
    replace KDd := Lib.hid KDd
    replace KZd := Lib.hid KZd
    replace KGd := Lib.hid KGd
    refine wpAnyH_take (i := 0) (oi := { dst := some 15, op := Op.load 70 (Operand.tmp 3), type := 70, pos := "sign.go:166", after := #[], guard := none }) (v := (.func (.func 44) #[] #[.pointer (some ⟨gs, 0, none⟩), .pointer (some ⟨gn, 0, none⟩), .pointer (some ⟨gi, 0, none⟩), .pointer (some ⟨gb, 0, none⟩)])) rfl (by kernel_rfl) (by kernel_rfl) (by kernel_rfl) (fun _ _ _ h => h) (Or.inl ⟨by rfl, fun W hW => by have hcl : W.cell? ⟨gn, 0, none⟩ = some (.func (.func 44) #[] #[.pointer (some ⟨gs, 0, none⟩), .pointer (some ⟨gn, 0, none⟩), .pointer (some ⟨gi, 0, none⟩), .pointer (some ⟨gb, 0, none⟩)]) := hW; go_simp⟩) hS0 ?_
    try dsimp only [Act.put]
    try simp only [List.setIfInBounds_toArray, List.set_cons_zero, List.set_cons_succ]
    refine wpAnyH_take (i := 1) (oi := { dst := some 16, op := Op.move (Operand.tmp 0), type := 3, pos := "sign.go:166", after := #[], guard := none }) (v := .int .i64 (q : Int)) rfl (by kernel_rfl) (by kernel_rfl) (by kernel_rfl) (fun _ _ _ h => h) (Or.inl ⟨by rfl, fun W hW => ?y2⟩) hS0 ?_
    case y2 => go_simp
    try dsimp only [Act.put]
    try simp only [List.setIfInBounds_toArray, List.set_cons_zero, List.set_cons_succ]
    refine wpAnyH_take (i := 2) (oi := { dst := some 17, op := Op.binOp BinOp.sub 3 (Operand.tmp 16) (Operand.const (Value.int IntKind.i64 1)) 3, type := 3, pos := "sign.go:166", after := #[{ on := 1, ground := Ground.data }], guard := none }) (v := .int .i64 ((q : Int) - 1)) rfl (by kernel_rfl) (by kernel_rfl) (by kernel_rfl) (fun _ _ _ h => h) (Or.inl ⟨by rfl, fun W hW => ?y3⟩) hS0 ?_
    case y3 => go_simp
    try dsimp only [Act.put]
    try simp only [List.setIfInBounds_toArray, List.set_cons_zero, List.set_cons_succ]
    refine wpAnyH_take (i := 3) (oi := { dst := some 18, op := Op.move (Operand.tmp 1), type := 3, pos := "sign.go:166", after := #[], guard := none }) (v := .int .i64 (k : Int)) rfl (by kernel_rfl) (by kernel_rfl) (by kernel_rfl) (fun _ _ _ h => h) (Or.inl ⟨by rfl, fun W hW => ?y4⟩) hS0 ?_
    case y4 => go_simp
    try dsimp only [Act.put]
    try simp only [List.setIfInBounds_toArray, List.set_cons_zero, List.set_cons_succ]
    refine wpAnyH_take (i := 4) (oi := { dst := some 19, op := Op.binOp BinOp.mul 3 (Operand.const (Value.int IntKind.i64 2)) (Operand.tmp 18) 3, type := 3, pos := "sign.go:166", after := #[{ on := 3, ground := Ground.data }], guard := none }) (v := .int .i64 (2 * (k : Int))) rfl (by kernel_rfl) (by kernel_rfl) (by kernel_rfl) (fun _ _ _ h => h) (Or.inl ⟨by rfl, fun W hW => ?y5⟩) hS0 ?_
    case y5 => go_simp
    try dsimp only [Act.put]
    try simp only [List.setIfInBounds_toArray, List.set_cons_zero, List.set_cons_succ]
    refine wpAnyH_take (i := 6) (oi := { dst := some 21, op := Op.load 70 (Operand.tmp 3), type := 70, pos := "sign.go:166", after := #[], guard := none }) (v := (.func (.func 44) #[] #[.pointer (some ⟨gs, 0, none⟩), .pointer (some ⟨gn, 0, none⟩), .pointer (some ⟨gi, 0, none⟩), .pointer (some ⟨gb, 0, none⟩)])) rfl (by kernel_rfl) (by kernel_rfl) (by kernel_rfl) (fun _ _ _ h => h) (Or.inl ⟨by rfl, fun W hW => by have hcl : W.cell? ⟨gn, 0, none⟩ = some (.func (.func 44) #[] #[.pointer (some ⟨gs, 0, none⟩), .pointer (some ⟨gn, 0, none⟩), .pointer (some ⟨gi, 0, none⟩), .pointer (some ⟨gb, 0, none⟩)]) := hW; go_simp⟩) hS0 ?_
    try dsimp only [Act.put]
    try simp only [List.setIfInBounds_toArray, List.set_cons_zero, List.set_cons_succ]
    refine wpAnyH_take (i := 7) (oi := { dst := some 22, op := Op.move (Operand.tmp 0), type := 3, pos := "sign.go:166", after := #[], guard := none }) (v := .int .i64 (q : Int)) rfl (by kernel_rfl) (by kernel_rfl) (by kernel_rfl) (fun _ _ _ h => h) (Or.inl ⟨by rfl, fun W hW => ?y7⟩) hS0 ?_
    case y7 => go_simp
    try dsimp only [Act.put]
    try simp only [List.setIfInBounds_toArray, List.set_cons_zero, List.set_cons_succ]
    refine wpAnyH_take (i := 8) (oi := { dst := some 23, op := Op.binOp BinOp.sub 3 (Operand.tmp 22) (Operand.const (Value.int IntKind.i64 1)) 3, type := 3, pos := "sign.go:166", after := #[{ on := 7, ground := Ground.data }], guard := none }) (v := .int .i64 ((q : Int) - 1)) rfl (by kernel_rfl) (by kernel_rfl) (by kernel_rfl) (fun _ _ _ h => h) (Or.inl ⟨by rfl, fun W hW => ?y8⟩) hS0 ?_
    case y8 => go_simp
    try dsimp only [Act.put]
    try simp only [List.setIfInBounds_toArray, List.set_cons_zero, List.set_cons_succ]
    refine wpAnyH_take (i := 9) (oi := { dst := some 24, op := Op.move (Operand.tmp 1), type := 3, pos := "sign.go:166", after := #[], guard := none }) (v := .int .i64 (k : Int)) rfl (by kernel_rfl) (by kernel_rfl) (by kernel_rfl) (fun _ _ _ h => h) (Or.inl ⟨by rfl, fun W hW => ?y9⟩) hS0 ?_
    case y9 => go_simp
    try dsimp only [Act.put]
    try simp only [List.setIfInBounds_toArray, List.set_cons_zero, List.set_cons_succ]
    refine wpAnyH_take (i := 10) (oi := { dst := some 25, op := Op.binOp BinOp.mul 3 (Operand.const (Value.int IntKind.i64 2)) (Operand.tmp 24) 3, type := 3, pos := "sign.go:166", after := #[{ on := 9, ground := Ground.data }], guard := none }) (v := .int .i64 (2 * (k : Int))) rfl (by kernel_rfl) (by kernel_rfl) (by kernel_rfl) (fun _ _ _ h => h) (Or.inl ⟨by rfl, fun W hW => ?y10⟩) hS0 ?_
    case y10 => go_simp
    try dsimp only [Act.put]
    try simp only [List.setIfInBounds_toArray, List.set_cons_zero, List.set_cons_succ]
    refine wpAnyH_take (i := 11) (oi := { dst := some 26, op := Op.binOp BinOp.add 3 (Operand.tmp 25) (Operand.const (Value.int IntKind.i64 1)) 3, type := 3, pos := "sign.go:166", after := #[{ on := 10, ground := Ground.data }], guard := none }) (v := .int .i64 (2 * (k : Int) + 1)) rfl (by kernel_rfl) (by kernel_rfl) (by kernel_rfl) (fun _ _ _ h => h) (Or.inl ⟨by rfl, fun W hW => ?y11⟩) hS0 ?_
    case y11 => go_simp
    try dsimp only [Act.put]
    try simp only [List.setIfInBounds_toArray, List.set_cons_zero, List.set_cons_succ]
    refine wpAnyH_ready (rs := [5]) (by kernel_rfl) (by simp) ?_
    refine AllReadyH.cons (o := { dst := some 20, op := Op.call { callee := Callee.value (Operand.tmp 15), args := #[Operand.tmp 17, Operand.tmp 19], argTypes := #[3, 3] }, type := 23, pos := "sign.go:166", after := #[{ on := 0, ground := Ground.data }, { on := 2, ground := Ground.data }, { on := 4, ground := Ground.data }], guard := none }) rfl (fun K hK => ?_) AllReadyH.nil
    rw [if_pos (by rfl)]
    go_simp
    refine (HIH.out (2 * k) (2 * (k : Int)) (by omega) Wd L HL.out (by omega) ED.out KGd.out (HT.out.grown FD.out hG1) D1 HD1.out L1 HL1.out).mono ?_; rintro e w2 ⟨rfl, hg2, hf2⟩
    have F2 := Lib.hid (grown_trans FD.out hf2)
    have E2 := Lib.hid (HE.out.grown F2.out)
    have KD2 := Lib.hid (Blk.grown' KDd.out hf2 HNE.out.1)
    have KZ2 := Lib.hid (Blk.grown' KZd.out hf2 HNE.out.2)
    have KG2 := Lib.hid hg2
    have hS2 := E2.out.cn
    clear hg2 hf2
    go_wp2_with fail
    refine hK.out _ _ hS2 (fun _ => ?_)
    clear hK K
    try dsimp only [Act.put]
    try simp only [List.setIfInBounds_toArray, List.set_cons_zero, List.set_cons_succ]
    refine wpAnyH_ready (rs := [12]) (by kernel_rfl) (by simp) ?_
    refine AllReadyH.cons (o := { dst := some 27, op := Op.call { callee := Callee.value (Operand.tmp 21), args := #[Operand.tmp 23, Operand.tmp 26], argTypes := #[3, 3] }, type := 23, pos := "sign.go:166", after := #[{ on := 6, ground := Ground.data }, { on := 8, ground := Ground.data }, { on := 11, ground := Ground.data }, { on := 5, ground := Ground.chain }], guard := none }) rfl (fun K hK => ?_) AllReadyH.nil
    rw [if_pos (by rfl)]
    go_simp
    refine (HIH.out (2 * k + 1) (2 * (k : Int) + 1) (by omega) w2 L1 HL1l.out (by omega) E2.out KG2.out (HT.out.grown F2.out hG1) D2 HD2.out L2 HL2.out).mono ?_; rintro e w3 ⟨rfl, hg3, hf3⟩
    have F3 := Lib.hid (grown_trans F2.out hf3)
    have E3 := Lib.hid (HE.out.grown F3.out)
    have KD3 := Lib.hid (Blk.grown' KD2.out hf3 HNE.out.1)
    have KZ3 := Lib.hid (Blk.grown' KZ2.out hf3 HNE.out.2)
    have KG3 := Lib.hid hg3
    have hS3 := E3.out.cn
    clear hg3 hf3
    go_wp2_with fail
    refine hK.out _ _ hS3 (fun _ => ?_)
    clear hK K
    try dsimp only [Act.put]
    try simp only [List.setIfInBounds_toArray, List.set_cons_zero, List.set_cons_succ]
    refine wpAnyH_ready (rs := [13]) (by kernel_rfl) (by simp) ?_
    refine AllReadyH.cons (o := { dst := some 28, op := Op.call { callee := Callee.value (Operand.func 46), args := #[Operand.tmp 20, Operand.tmp 27], argTypes := #[23, 23] }, type := 23, pos := "sign.go:166", after := #[{ on := 5, ground := Ground.data }, { on := 12, ground := Ground.data }, { on := 12, ground := Ground.chain }], guard := none }) rfl (fun K hK => ?_) AllReadyH.nil
    rw [if_pos (by rfl)]
    go_simp
    refine (join_any D1 D2 w3 HD1l.out HD2l.out (HT.out.grown F3.out hG1) D HDj).mono ?_; rintro e w4 ⟨rfl, hb4⟩
    have F4 := Lib.hid (grown_trans F3.out (grown_below (some G) hb4))
    have E4 := Lib.hid (HE.out.grown F4.out)
    have KD4 : w4.heap[w.heap.size + 1]? = some (.cells Z16.toArray 23 (0, 0)) := KD3.out.below hb4 KD3.out.lt
    have KZ4 := Lib.hid (KZ3.out.below hb4 KZ3.out.lt)
    have KG4 := Lib.hid (KG3.out.below hb4 KG3.out.lt)
    have hS4 := E4.out.cn
    clear hb4
    go_wp2_with fail
    refine hK.out _ _ hS4 (fun _ => ?_)
    clear hK K
    try dsimp only [Act.put]
    try simp only [List.setIfInBounds_toArray, List.set_cons_zero, List.set_cons_succ]
    refine wpAnyH_ready (rs := [14]) (by kernel_rfl) (by simp) ?_
    refine AllReadyH.cons (o := { dst := none, op := Op.store 23 (Operand.tmp 9) (Operand.tmp 28), type := 0, pos := "sign.go:166", after := #[{ on := 13, ground := Ground.data }, { on := 13, ground := Ground.chain }, { on := 0, ground := Ground.phase }, { on := 1, ground := Ground.phase }, { on := 2, ground := Ground.phase }, { on := 3, ground := Ground.phase }, { on := 4, ground := Ground.phase }, { on := 5, ground := Ground.phase }, { on := 6, ground := Ground.phase }, { on := 7, ground := Ground.phase }, { on := 8, ground := Ground.phase }, { on := 9, ground := Ground.phase }, { on := 10, ground := Ground.phase }, { on := 11, ground := Ground.phase }, { on := 12, ground := Ground.phase }, { on := 13, ground := Ground.phase }], guard := none }) rfl (fun K hK => ?_) AllReadyH.nil
    rw [if_pos (by rfl)]
    refine wp_store_row 23 (.tmp 9) (.tmp 28) rfl (w.heap.size + 1) (B8 D).toArray rfl rfl 23 _ KD4 (size23' _ HDl.out) (Z16_size _ HDl.out) (one8 _) ?_
    have F5 := Lib.hid (grown_setRow' F4.out (Nat.le_succ _) (B8 D).toArray)
    have E5 := Lib.hid (HE.out.grown F5.out)
    refine hK.out _ _ E5.out.cn (fun _ => ?_)
    clear hK K
    try dsimp only [Act.put]
    try simp only [List.setIfInBounds_toArray, List.set_cons_zero, List.set_cons_succ]
    refine wpAnyH_done (by kernel_rfl) ?_ _
    try dsimp only [Act.put]
    try simp only [List.setIfInBounds_toArray, List.set_cons_zero, List.set_cons_succ]
    have KD := Lib.hid (Blk.row (show Blk w4 (w.heap.size + 1) 23 Z16 from KD4) (B8 D))
    have KZ := Lib.hid (KZ4.out.setRow (show w.heap.size ≠ w.heap.size + 1 by omega) (B8 D).toArray)
    have KG := Lib.hid (KG4.out.setRow HNE.out.1.symm (B8 D).toArray)
    have F3' := F5
    have E3' := E5
    clear F3 E3 KD4 KZ4 KG4 F4 E4 hS0 hS2 hS3 hS4
    have F3 := F3'
    have E3 := E3'
    clear F3' E3' F5 E5
    generalize w4.setRow (w.heap.size + 1) (B8 D).toArray = W3 at KD KZ KG F3 E3 ⊢
    by_cases hk : k = sib (ix / 2 ^ q)
    · have hS : ((k : Int) == ((sib (ix / 2 ^ q) : Nat) : Int)) = true := by rw [beq_iff_eq]; omega
      have hqh : q < h := HQ.out.2 hk
      have hfit := Lib.hid (show q * 16 + (B8 D).length ≤ (B8 L2).length by rw [B8_len, B8_len, HDl.out, HL3.out]; omega)
      have HU := Lib.hid (show splice (B8 L2) (q * 16) (B8 D) = B8 L' by rw [Nat.mul_comm q 16, ← B8_splice, HL'.out, upd, if_pos hk, ← HDn.out])
      have e5 := E3.out.cb
      have e4 := E3.out.ci
      have HLD := Lib.hid KD.out.at
      have HG3 := Lib.hid (show W3.heap[G]? = some (.cells (B8 L2).toArray 23 (0, 0)) from KG.out)
      obtain ⟨W4, hW4⟩ : ∃ W, W = W3.setRow G (B8 L').toArray := ⟨_, rfl⟩
      have KG4 := Lib.hid (show Blk W4 G 23 (B8 L') by rw [hW4]; exact KG.out.row _)
      have F4 := Lib.hid (show w.grownBy W4 (some G) by rw [hW4]; exact grown_setRow F3.out _)
      have KZ4 := Lib.hid (show W4.heap[w.heap.size]? = some (.cells Z16.toArray 23 (0, 0)) by rw [hW4]; exact KZ.out.setRow (show w.heap.size ≠ G by have := HE.out.hG; omega) (B8 L').toArray)
      have HLD4 := Lib.hid (show ∀ j v, (B8 D)[j]? = some v → W4.cell? ((⟨w.heap.size + 1, 0, none⟩ : Addr).add j) = some v by rw [hW4]; exact (KD.out.setRow (show w.heap.size + 1 ≠ G by have := HE.out.hG; omega) (B8 L').toArray).at)
      have HW4 := Lib.hid hW4
      have HSb : Hid ((sib (ix / 2 ^ q) : Nat) = k) := Lib.hid hk.symm
      have hq63 : q ≤ 6 := by have := HQ.out.1; omega
      generalize sib (ix / 2 ^ q) = S at hS hx
      clear hk hW4
      go_wp2_with (first
        | (with_reducible refine wpList_load_at rfl 23 (.tmp 9) rfl ⟨w.heap.size + 1, 0, none⟩ rfl (B8 D) (.array 16 5) HLD.out Tryd.underlying23 rfl (size23 _ HDl.out) ?_)
        | (with_reducible refine wpList_load_at rfl 23 (.tmp 9) rfl ⟨w.heap.size + 1, 0, none⟩ rfl (B8 D) (.array 16 5) HLD4.out Tryd.underlying23 rfl (size23 _ HDl.out) ?_)
        | (refine wpList_store_at rfl 23 (.tmp 38) (.tmp 37) rfl G (q * 16) (B8 D) rfl rfl 23 (B8 L2) HG3.out (size23 _ HDl.out) hfit.out (B8_one _) ?_; rw [HU.out, ← HW4.out])
        | (with_reducible refine wpList_store_row rfl 23 (.tmp 8) (.tmp 39) rfl w.heap.size (B8 D).toArray rfl rfl 23 _ KZ4.out (size23' _ HDl.out) (Z16_size _ HDl.out) (one8 _) ?_))
      refine bodyPost_ret (v := .agg (B8 D).toArray) ?_ rfl ⟨rfl, KG4.out.setRow (show G ≠ w.heap.size by have := HE.out.hG; omega) _, grown_setRow' F4.out (Nat.le_refl _) _⟩
      have hr := run_loadVar_row (P := Tryd.prog) _ w.heap.size 23 23 (B8 D).toArray (0, 0) (.array 16 5) (heap_setRow W4 w.heap.size (B8 D).toArray _ 23 KZ4.out) Tryd.underlying23 rfl (size23' _ HDl.out)
      simp [results, Tryd.results44, asAddr, hr, Act.put]
    · have hS : ((k : Int) == ((sib (ix / 2 ^ q) : Nat) : Int)) = false := by rw [beq_eq_false_iff_ne]; omega
      have HU := Lib.hid (show L2 = L' by rw [HL'.out, upd, if_neg hk])
      have e4 := E3.out.ci
      have HLD := Lib.hid KD.out.at
      have KZ3 := Lib.hid (show W3.heap[w.heap.size]? = some (.cells Z16.toArray 23 (0, 0)) from KZ.out)
      have hq63 : q ≤ 6 := by have := HQ.out.1; omega
      generalize sib (ix / 2 ^ q) = S at hS hx
      clear hk
      go_wp2_with (first
        | (with_reducible refine wpList_load_at rfl 23 (.tmp 9) rfl ⟨w.heap.size + 1, 0, none⟩ rfl (B8 D) (.array 16 5) HLD.out Tryd.underlying23 rfl (size23 _ HDl.out) ?_)
        | (with_reducible refine wpList_store_row rfl 23 (.tmp 8) (.tmp 39) rfl w.heap.size (B8 D).toArray rfl rfl 23 _ KZ3.out (size23' _ HDl.out) (Z16_size _ HDl.out) (one8 _) ?_))
      refine bodyPost_ret (v := .agg (B8 D).toArray) ?_ rfl ⟨rfl, by rw [← HU.out]; exact KG.out.setRow (show G ≠ w.heap.size by have := HE.out.hG; omega) _, grown_setRow' F3.out (Nat.le_refl _) _⟩
      have hr := run_loadVar_row (P := Tryd.prog) _ w.heap.size 23 23 (B8 D).toArray (0, 0) (.array 16 5) (heap_setRow W3 w.heap.size (B8 D).toArray _ 23 KZ3.out) Tryd.underlying23 rfl (size23' _ HDl.out)
      simp [results, Tryd.results44, asAddr, hr, Act.put]
end Go.Proofs.YtgonidjajmjniaaDoor

