/-
  The chains of sign: plain mathematics; the contracts of wire.Ints, digestAt, bottom, join, Digest and advance.
  Conditions: lengths of lists and strings; heights from 0 to 1000; the table of the round constants is as the text lays it.
-/
import Derived.Test.YtgonidjajmjniaaDoorSmall
import Derived.Test.YtgonidjajmjniaaDoorDigs
import Derived.Test.YtgonidjajmjniaaDoorGet
import Derived.Test.YtgonidjajmjniaaDoorInts
import Derived.Deep.RegionHeld
namespace Go.Proofs.YtgonidjajmjniaaDoor
open Go.RowKit Wr Sh
set_option linter.unusedVariables false
set_option maxRecDepth 100000

/-- Bytes as a string. -/
def bs (l : List UInt8) : ByteArray := ⟨l.toArray⟩
theorem bs_size (l : List UInt8) : (bs l).size = l.length := by simp [bs, ByteArray.size]
theorem bs_list (l : List UInt8) : (bs l).data.toList = l := by simp [bs]
def chainL : List UInt8 := [99, 104, 97, 105, 110]
/-- The value of a chain at height 0. -/
def bot (s : List UInt8) (i c : Int) : List UInt8 := (mac s (chainL ++ encInts [i, c])).take 16
/-- The value of a chain k steps above the height f. -/
def adv (i c f : Int) (v : List UInt8) : Nat → List UInt8
  | 0 => v
  | k + 1 => dof 1 [bs (encInts [i, c, f + (k : Int)]), bs (adv i c f v k)]
def topsOf (s : List UInt8) (i : Int) (n : Nat) : List UInt8 := ((List.range n).map fun c : Nat => adv i (c : Int) 0 (bot s i (c : Int)) 3).flatten
def sleaf (s : List UInt8) (i : Int) : List UInt8 := leafOf (topsOf s i 68)
def nodeOf (l r : List UInt8) : List UInt8 := dof 4 [bs l, bs r]
/-- The node at a level. -/
def node (s : List UInt8) : Nat → Nat → List UInt8
  | 0, k => sleaf s (k : Int)
  | l + 1, k => nodeOf (node s l (2 * k)) (node s l (2 * k + 1))
/-- The number beside a number. -/
def sib (n : Nat) : Nat := if n % 2 = 0 then n + 1 else n - 1
def bes (s : List UInt8) (i : Nat) (h : Nat) : List UInt8 := ((List.range h).map fun l => node s l (sib (i / 2 ^ l))).flatten
/-- What is signed. -/
def digOf (p : List UInt8) (i : Int) (m : ByteArray) : List UInt8 := dof 5 [bs p, bs (enc i), m]
theorem bot_len (s : List UInt8) (i c : Int) : (bot s i c).length = 16 := by unfold bot mac; rw [List.length_take, sha_len]; rfl
theorem adv_len (i c f : Int) (v : List UInt8) (h : v.length = 16) (k : Nat) : (adv i c f v k).length = 16 := by
  cases k with
  | zero => exact h
  | succ k => exact dof_len _ _
theorem tops_succ (s : List UInt8) (i : Int) (n : Nat) : topsOf s i (n + 1) = topsOf s i n ++ adv i (n : Int) 0 (bot s i (n : Int)) 3 := by
  unfold topsOf; rw [List.range_succ, List.map_append, List.flatten_append]; simp
theorem tops_len (s : List UInt8) (i : Int) (n : Nat) : (topsOf s i n).length = 16 * n := by
  induction n with
  | zero => rfl
  | succ n ih => rw [tops_succ, List.length_append, ih, adv_len _ _ _ _ (bot_len _ _ _)]; omega
theorem node_len (s : List UInt8) (l k : Nat) : (node s l k).length = 16 := by
  cases l with
  | zero => exact dof_len _ _
  | succ l => exact dof_len _ _
theorem bes_succ (s : List UInt8) (i h : Nat) : bes s i (h + 1) = bes s i h ++ node s h (sib (i / 2 ^ h)) := by
  unfold bes; rw [List.range_succ, List.map_append, List.flatten_append]; simp
theorem bes_len (s : List UInt8) (i h : Nat) : (bes s i h).length = 16 * h := by
  induction h with
  | zero => rfl
  | succ n ih => rw [bes_succ, List.length_append, ih, node_len]; omega
/-- The length of an input of a few short parts. -/
theorem inp_cons (t : UInt8) (s : ByteArray) (l : List ByteArray) : (inp t (s :: l)).length ≤ (inp t l).length + s.size + 9 := by
  unfold inp
  have := (enc_le (s.data.toList.length : Int)).2
  simp only [List.map_cons, List.flatten_cons, List.length_cons, List.length_append, encStr]
  rw [size_l] at *
  omega
theorem inp_nil (t : UInt8) : (inp t []).length = 1 := rfl
theorem ints_le (l : List Int) : (encInts l).length ≤ 9 * l.length + 9 := by
  unfold encInts encList
  have h0 := (enc_le (l.length : Int)).2
  have h1 : ∀ l : List Int, ((l.map enc).flatten).length ≤ 9 * l.length := by
    intro l
    induction l with
    | nil => simp
    | cons a l ih =>
      have := (enc_le a).2
      simp only [List.map_cons, List.flatten_cons, List.length_append, List.length_cons]; omega
  have := h1 l
  rw [List.length_append]; omega
end Go.Proofs.YtgonidjajmjniaaDoor

namespace Go.Proofs.YtgonidjajmjniaaDoor
open Go.RowKit Wr Sh
set_option linter.unusedVariables false
set_option maxRecDepth 100000

theorem partE_len {α : Type} (e : α → List UInt8) (l : List α) (m j : Nat) (h : ∀ x ∈ l, (e x).length ≤ m) (hj : j ≤ l.length) : (partE e l j).length ≤ 9 + m * j := by
  induction j with
  | zero => rw [partE_zero]; have := enc_le (l.length : Int); omega
  | succ j ih =>
    rw [partE_succ e l j (by omega), List.length_append]
    have := ih (by omega)
    have := h l[j] (List.getElem_mem _)
    rw [Nat.mul_succ]; omega

/-- The cells of integers. -/
def I64 (l : List Int) : List Value := l.map (Value.int .i64)
theorem I64_get (l : List Int) (j : Nat) (h : j < l.length) : (I64 l)[j]? = some (.int .i64 l[j]) := by simp [I64, h]

set_option maxRecDepth 100000 in
set_option maxHeartbeats 400000 in
theorem ints_any (A : Option Addr) (l : List Int) (c : Nat) (w : World) (hr : Rd w w.heap.size A (I64 l)) (hc : l.length ≤ c) (hl : l.length ≤ 1073741824) (hi : ∀ x ∈ l, okInt x) :
    Calls Tryd.prog 49 #[.slice A l.length c] w fun e w' => ∃ v', e = .returned v' ∧ w'.ownsRow w.heap.size 5 1 v' (encInts l).length (B8 (encInts l)) ∧ Below w.heap.size w w' := by
  have hz := enc_le (l.length : Int)
  obtain ⟨N, hN⟩ : ∃ N, N = l.length := ⟨_, rfl⟩
  rw [← hN] at hc hl hz ⊢
  have HN := Lib.hid hN
  clear hN
  go_enter Tryd.func49, Tryd.ntmps49
  go_wp2_with (go_at_call 28; refine (int_any _ _ (by omega) (by omega)).mono ?_; rintro e w1 ⟨v1, rfl, ho1, hb1⟩)
  go_loopw [3, 11] (fun s3 s11 wr => ∃ j : Nat, j ≤ N ∧ s11 = .int .i64 j ∧ wr.ownsRow w.heap.size 5 1 s3 (partE enc l j).length (B8 (partE enc l j)) ∧ Below w.heap.size w wr)
    (fun _ s11 _ => N - (intOf s11).toNat)
  case atStart => exact ⟨0, Nat.zero_le _, rfl, by rw [partE_zero, ← HN.out]; exact ho1, hb1⟩
  case round =>
    obtain ⟨j, hj, rfl, ho, hb⟩ := hrel
    by_cases hlt : j < N
    · have hjl : j < l.length := by have := HN.out; omega
      obtain ⟨g, o, rfl, hg, hcell⟩ := (hr.below hb) (by intro e; have := congrArg List.length e; simp only [I64, List.length_map, List.length_nil] at this; omega)
      have hcj : wr.cell? ⟨g, o + j, none⟩ = some (.int .i64 l[j]) := hcell j _ (I64_get l j hjl)
      have hb2 := hi l[j] (List.getElem_mem _)
      have hb3 := partE_len enc l 9 j (fun x _ => (enc_le x).2) (by have := HN.out; omega)
      have hsz := hb.size
      have HP := Lib.hid (partE_succ enc l j hjl)
      clear hcell
      go_wp2_with (go_at_call 48; refine (appendInt_any _ _ _ w.heap.size _ _ hsz ho (by omega) hb2.1 hb2.2).mono ?_; rintro e w2 ⟨v2, rfl, ho2, hbb2⟩)
      go_roundw
      case rel => exact ⟨j + 1, by omega, by go_num, by rw [HP.out, List.length_append]; exact ho2, hb.trans hbb2⟩
      case measure => simp only [intOf]; omega
    · obtain rfl : j = N := by omega
      go_wp2_with fail
      go_ret
      exact ⟨_, rfl, by unfold encInts; rw [← partE_all, ← HN.out]; exact ho, hb⟩

/-- wire.Ints of a list just built. -/
theorem ints_new (l : List Int) (n : Nat) (hn : n = l.length) (W0 : World) (g : Nat) (hg : g = W0.heap.size) (hl : n ≤ 1024) (hi : ∀ x ∈ l, okInt x) (E : List UInt8) (hE : Hid (E = encInts l)) (M : Nat) (hM : Hid (M = E.length)) (W1 : World) (hW1 : W1 = W0.alloc (.cells (I64 l).toArray 3)) :
    Calls Tryd.prog 49 #[.slice (some ⟨g, 0, none⟩) n n] W1 fun e w' => ∃ (A' : Option Addr) (c' : Nat), e = .returned (.slice A' M c') ∧ M ≤ c' ∧ Rd w' w'.heap.size A' (B8 E) ∧ Below W1.heap.size W1 w' := by
  subst hg hn hW1
  rw [hM.out, hE.out]
  refine (ints_any _ l l.length _ (rd_new W0 (I64 l) 3) (Nat.le_refl _) (by omega) hi).mono ?_
  rintro e w' ⟨v, rfl, ho, hb⟩
  obtain ⟨A', c', rfl, h1, _, h3⟩ := own_form ho
  exact ⟨A', c', rfl, h1, h3, hb⟩
/-- Bytes that can be read, as a string. -/
theorem conv_rd (A : Option Addr) (T : List UInt8) (c B : Nat) (W : World) (h : Rd W B A (B8 T)) (N : Nat) (hN : N = T.length) (h0 : 0 < N) :
    (convert 54 9 (.slice A N c)).run Tryd.prog W = .ok (.string (bs T)) W := by
  subst hN
  obtain ⟨g, o, rfl, hg, hc⟩ := h (by intro e; have := congrArg List.length e; rw [B8_len] at this; simp only [List.length_nil] at this; omega)
  exact conv_at g o c T W hc

set_option maxHeartbeats 1000000 in
theorem digestAt_any (A : Option Addr) (L : List UInt8) (c : Nat) (w : World) (B : Nat) (hr : Rd w B A (B8 L)) (hc : L.length ≤ c) (hc2 : L.length ≤ 1099511627776) (hB : B ≤ w.heap.size) (N i : Nat) (hN : N = L.length) (hi : 16 * (i + 1) ≤ N) (R : List UInt8) (hR : Hid (R = (L.drop (16 * i)).take 16)) :
    Calls Tryd.prog 38 #[.slice A N c, .int .i64 i] w fun e w' => e = .returned (.agg (B8 R).toArray) ∧ Below w.heap.size w w' := by
  have hn : B8 L ≠ [] := by intro e; have := congrArg List.length e; rw [B8_len] at this; simp only [List.length_nil] at this; omega
  obtain ⟨g, o, rfl, hg, hcell⟩ := hr hn
  have hRl : R.length = 16 := by rw [hR.out]; simp; omega
  have HL16 := Lib.hid (show (Tryd.prog.info? 23).map (·.size) = some (B8 R).length from size23 _ hRl)
  have HS16 := Lib.hid (size23' _ hRl)
  have HZ := Lib.hid (Z16_size R hRl)
  have HK := Lib.hid (show (w.alloc (.cells Z16.toArray 23)).heap[w.heap.size]? = some (.cells Z16.toArray 23 (0, 0)) from Blk.new w 23 Z16)
  have HB0 := Lib.hid (fun O : Obj => ((Below.refl w.heap.size w).alloc (Nat.le_refl _) O))
  have HLD := Lib.hid (show ∀ j v, (B8 R)[j]? = some v → (w.alloc (.cells Z16.toArray 23)).cell? ((⟨g, o + 16 * i, none⟩ : Addr).add j) = some v from fun j v hv => by
    rw [Addr.add_lit, Below.cell (HB0.out _) (by exact Nat.lt_of_lt_of_le hg hB)]
    rw [Nat.add_assoc]
    refine hcell _ v ?_
    rw [hR.out] at hv
    unfold B8 at hv ⊢
    rw [List.getElem?_map, List.getElem?_take] at hv
    rw [List.getElem?_map]
    split at hv
    · rw [List.getElem?_drop] at hv; exact hv
    · cases hv)
  have hZ : (#[.int .u8 0, .int .u8 0, .int .u8 0, .int .u8 0, .int .u8 0, .int .u8 0, .int .u8 0, .int .u8 0, .int .u8 0, .int .u8 0, .int .u8 0, .int .u8 0, .int .u8 0, .int .u8 0, .int .u8 0, .int .u8 0] : Array Value) = Z16.toArray := by rfl
  have hu : Tryd.prog.underlying 54 = some (.slice (Tryd.prog.elem 54)) := by kernel_rfl
  have he : Tryd.prog.elem 54 = 5 := by kernel_rfl
  have hsl : ∀ W : World, (Instr.sliceAt 54 (.slice (some ⟨g, o, none⟩) N c) (some (.int .i64 ((i : Int) * 16))) (some (.int .i64 (((i : Int) + 1) * 16))) none).run Tryd.prog W = .ok (.slice (some ⟨g, o + 16 * i, none⟩) 16 (c - 16 * i)) W := by
    intro W
    have h5 : (sizeOf 5).run Tryd.prog W = .ok 1 W := by kernel_rfl
    rw [run_sliceAt_slice W 54 _ _ _ _ hu, run_slice_lh W 54 (some ⟨g, o, none⟩) N c hu .i64 .i64 ((i : Int) * 16) (((i : Int) + 1) * 16) (by omega) (by omega) (by omega), he, h5]
    simp only [Result.andThen, sliced]
    have e1 : (((i : Int) + 1) * 16).toNat - ((i : Int) * 16).toNat = 16 := by omega
    have e2 : ((i : Int) * 16).toNat = 16 * i := by omega
    rw [e1, e2]
    have e3 : ¬ (c - 16 * i = 0) := by omega
    simp [Addr.add_lit]
    omega
  have hat : ∀ (W : World), (Instr.arrayAt 23 (.slice (some ⟨g, o + 16 * i, none⟩) 16 (c - 16 * i))).run Tryd.prog W = .ok (.pointer (some ⟨g, o + 16 * i, none⟩)) W := fun W => run_arrayAt W 23 5 16 _ 16 _ Tryd.underlying23 (by omega)
  have hi1 : (i : Int) ≤ 1099511627776 := by omega
  have hcN : N ≤ c := by omega
  clear hR hcell hr hn hu he hN hRl hc
  go_enter Tryd.func38, Tryd.ntmps38
  go_wp2_with (first
    | (with_reducible refine wpList_load_at rfl 23 (.tmp 12) rfl ⟨g, o + 16 * i, none⟩ rfl (B8 R) (.array 16 5) HLD.out Tryd.underlying23 rfl HL16.out ?_)
    | (with_reducible refine wpList_store_row rfl 23 (.tmp 4) (.tmp 13) rfl w.heap.size (B8 R).toArray rfl rfl 23 _ HK.out HS16.out HZ.out (one8 _) ?_))
  refine bodyPost_ret (v := .agg (B8 R).toArray) ?_ rfl ⟨rfl, belowRow (HB0.out _) (Nat.le_refl _) _⟩
  have hq := run_loadVar_row (P := Tryd.prog) _ w.heap.size 23 23 (B8 R).toArray (0, 0) (.array 16 5) (heap_setRow _ w.heap.size (B8 R).toArray _ 23 HK.out) Tryd.underlying23 rfl HS16.out
  simp [results, asAddr, hq, Act.put]
end Go.Proofs.YtgonidjajmjniaaDoor

namespace Go.Proofs.YtgonidjajmjniaaDoor
open Go.RowKit Wr Sh
set_option linter.unusedVariables false
set_option maxRecDepth 100000

theorem hZ16 : (#[.int .u8 0, .int .u8 0, .int .u8 0, .int .u8 0, .int .u8 0, .int .u8 0, .int .u8 0, .int .u8 0, .int .u8 0, .int .u8 0, .int .u8 0, .int .u8 0, .int .u8 0, .int .u8 0, .int .u8 0, .int .u8 0] : Array Value) = Z16.toArray := by rfl
theorem ok2 {i c : Int} (hi : okInt i) (hc : okInt c) : ∀ x ∈ [i, c], okInt x := by
  intro x hx
  simp only [List.mem_cons, List.not_mem_nil, or_false] at hx
  rcases hx with rfl | rfl
  · exact hi
  · exact hc
theorem ok3 {i c t : Int} (hi : okInt i) (hc : okInt c) (ht : okInt t) : ∀ x ∈ [i, c, t], okInt x := by
  intro x hx
  simp only [List.mem_cons, List.not_mem_nil, or_false] at hx
  rcases hx with rfl | rfl | rfl
  · exact hi
  · exact hc
  · exact ht

set_option maxHeartbeats 1000000 in
theorem bottom_any (sd : ByteArray) (i c : Int) (w : World) (hs : sd.size ≤ 1048576) (hi : okInt i) (hc : okInt c) (ht : Tab 1 w) (R : List UInt8) (hR : Hid (R = bot sd.data.toList i c)) :
    Calls Tryd.prog 30 #[.string sd, .int .i64 i, .int .i64 c] w fun e w' => e = .returned (.agg (B8 R).toArray) ∧ Below w.heap.size w w' := by
  obtain ⟨E, hE⟩ : ∃ E, E = encInts [i, c] := ⟨_, rfl⟩
  obtain ⟨M, hM⟩ : ∃ M, M = E.length := ⟨_, rfl⟩
  have hM1 : M ≤ 27 := by rw [hM, hE]; exact ints_le _
  have hM0 : 0 < M := by rw [hM, hE]; unfold encInts encList; rw [List.length_append]; have := (enc_le (([i, c] : List Int).length : Int)).1; omega
  have HE := Lib.hid hE
  have HM := Lib.hid hM
  have HO := Lib.hid (ok2 hi hc)
  have HT := Lib.hid ht
  have hZ := hZ16
  have HRl := Lib.hid (show R.length = 16 by rw [hR.out]; exact bot_len _ _ _)
  clear hE hM hi hc ht
  have K0 := Lib.hid (Blk.new w 23 Z16)
  have B0 := Lib.hid ((Below.refl w.heap.size w).alloc (Nat.le_refl _) (.cells Z16.toArray 23))
  go_enter Tryd.func30, Tryd.ntmps30
  go_wp2_with fail
  obtain ⟨W1, hW1⟩ : ∃ W, W = w.alloc (.cells Z16.toArray 23) := ⟨_, rfl⟩
  rw [← hW1] at K0 B0
  rw [← hW1]
  have G1 : w.heap.size + 1 = W1.heap.size := by rw [hW1]; simp
  clear hW1
  have B1 := Lib.hid (B0.out.alloc B0.out.size (.cells #[.int .i64 i, .int .i64 c] 3))
  have K1 := Lib.hid (K0.out.alloc (.cells #[.int .i64 i, .int .i64 c] 3))
  refine (ints_new [i, c] 2 rfl W1 _ G1 (by omega) HO.out E HE M HM _ rfl).mono ?_; rintro e w2 ⟨A2, c2, rfl, hc2, hr2, hb2⟩
  have B2 := Lib.hid (B1.out.trans (hb2.mono B1.out.size))
  have K2 := Lib.hid (K1.out.below hb2 K1.out.lt)
  have hcv := conv_rd A2 E c2 _ w2 hr2 M HM.out hM0
  clear hb2 hr2
  have hbE : (bs E).size ≤ 27 := by rw [bs_size, ← HM.out]; exact hM1
  go_wp2_with fail
  obtain ⟨tx, htx⟩ : ∃ tx : ByteArray, tx = ({ data := #[99, 104, 97, 105, 110] } ++ bs E) := ⟨_, rfl⟩
  rw [← htx]
  have htl : tx.data.toList = chainL ++ E := by rw [htx, ByteArray.data_append, Array.toList_append, bs_list]; rfl
  have htz : tx.size ≤ 274877906944 := by rw [← size_l, htl, List.length_append, ← HM.out]; show 5 + M ≤ _; omega
  obtain ⟨C, hC⟩ : ∃ C, C = mac sd.data.toList tx.data.toList := ⟨_, rfl⟩
  have HC := Lib.hid hC
  have hCl : C.length = 32 := by rw [hC]; exact sha_len _
  have HR2 := Lib.hid (show R = (C.drop (16 * 0)).take 16 by rw [hR.out, hC, htl, HE.out]; rfl)
  clear htx hC htl hcv
  refine (mac_go sd tx _ (by omega) htz (HT.out.below B2.out HT.out.1) C HC).mono ?_; rintro e w3 ⟨rfl, hb3⟩
  have B3 := Lib.hid (B2.out.trans (hb3.mono B2.out.size))
  have K3 := Lib.hid (K2.out.below hb3 K2.out.lt)
  clear hb3
  obtain ⟨S, hS⟩ : ∃ S : ByteArray, S = ⟨C.toArray⟩ := ⟨_, rfl⟩
  rw [← hS]
  have HSl := Lib.hid (show S.data.toList = C by rw [hS])
  have HSz := Lib.hid (show S.size = 32 by rw [← size_l, HSl.out, hCl])
  clear hS hCl
  go_wp2_with (with_reducible refine wpList_bytes_of rfl 9 54 5 (.tmp 16) rfl S rfl Tryd.underlying9 Tryd.underlying54 Tryd.underlying5 ?_; intro c4 w4 hc4 hr4 hb4)
  have B4 := Lib.hid (B3.out.trans (hb4.mono B3.out.size))
  have K4 := Lib.hid (K3.out.below hb4 K3.out.lt)
  rw [HSl.out] at hr4
  have hcl : C.length = S.size := by rw [← HSl.out, size_l]
  have hz32 := HSz.out
  refine (digestAt_any (some ⟨w3.heap.size, 0, none⟩) C c4 w4 w4.heap.size hr4 (by omega) (by omega) (Nat.le_refl _) S.size 0 hcl.symm (by omega) R HR2).mono ?_; rintro e w5 ⟨rfl, hb5⟩
  clear hcl hz32 hr4 hb4
  have B5 := Lib.hid (B4.out.trans (hb5.mono B4.out.size))
  have K5 := Lib.hid (show w5.heap[w.heap.size]? = some (.cells Z16.toArray 23 (0, 0)) from K4.out.below hb5 K4.out.lt)
  clear hb5
  go_wp2_with (with_reducible refine wpList_store_row rfl 23 (.tmp 6) (.tmp 18) rfl w.heap.size (B8 R).toArray rfl rfl 23 _ K5.out (size23' _ HRl.out) (Z16_size _ HRl.out) (one8 _) ?_)
  refine bodyPost_ret (v := .agg (B8 R).toArray) ?_ rfl ⟨rfl, belowRow B5.out (Nat.le_refl _) _⟩
  have hr := run_loadVar_row (P := Tryd.prog) _ w.heap.size 23 23 (B8 R).toArray (0, 0) (.array 16 5) (heap_setRow w5 w.heap.size (B8 R).toArray _ 23 K5.out) Tryd.underlying23 rfl (size23' _ HRl.out)
  simp [results, Tryd.results30, asAddr, hr, Act.put]
end Go.Proofs.YtgonidjajmjniaaDoor

namespace Go.Proofs.YtgonidjajmjniaaDoor
open Go.RowKit Wr Sh
set_option linter.unusedVariables false
set_option maxRecDepth 100000

/-- hash.Of of a list of parts just built. -/
theorem of_new (tag : Int) (t8 : UInt8) (htag : IntKind.u8.wrap tag = (t8.toNat : Int)) (l : List ByteArray) (n : Nat) (hn : n = l.length) (hs : (inp t8 l).length ≤ 274877906944) (W0 : World) (g : Nat) (hg : g = W0.heap.size) (W1 : World) (hW1 : W1 = W0.alloc (.cells (St l).toArray 9)) (ht : Tab 1 W1) (D : List UInt8) (hD : Hid (D = dof t8 l)) :
    Calls Tryd.prog 35 #[.int .i64 tag, .slice (some ⟨g, 0, none⟩) n n] W1 fun e w' => e = .returned (.agg (B8 D).toArray) ∧ Below W1.heap.size W1 w' := by
  subst hg hn hW1
  rw [hD.out]
  exact of_go tag (some ⟨W0.heap.size, 0, none⟩) l l.length _ (rd_new W0 (St l) 9) (Nat.le_refl _) t8 htag hs ht _ (Lib.hid rfl)
theorem inp_2 (t : UInt8) (a b : List UInt8) (ha : a.length ≤ 64) (hb : b.length ≤ 64) : (inp t [bs a, bs b]).length ≤ 274877906944 := by
  have h1 := inp_cons t (bs a) [bs b]
  have h2 := inp_cons t (bs b) []
  have h3 := inp_nil t
  rw [bs_size] at h1 h2
  omega

set_option maxHeartbeats 1000000 in
theorem join_any (a b : List UInt8) (w : World) (ha : a.length = 16) (hb : b.length = 16) (ht : Tab 1 w) (R : List UInt8) (hR : Hid (R = nodeOf a b)) :
    Calls Tryd.prog 46 #[.agg (B8 a).toArray, .agg (B8 b).toArray] w fun e w' => e = .returned (.agg (B8 R).toArray) ∧ Below w.heap.size w w' := by
  have HI := Lib.hid (inp_2 4 a b (by omega) (by omega))
  have HT := Lib.hid ht
  have HRl := Lib.hid (show R.length = 16 by rw [hR.out]; exact dof_len _ _)
  have hZ := hZ16
  obtain ⟨W1, hW1⟩ : ∃ W, W = ((w.alloc (.cells (B8 a).toArray 23)).alloc (.cells (B8 b).toArray 23)).alloc (.cells Z16.toArray 23) := ⟨_, rfl⟩
  have k1 : Blk W1 w.heap.size 23 (B8 a) := by rw [hW1]; exact ((Blk.new w 23 (B8 a)).alloc _).alloc _
  have k2 : Blk W1 (w.heap.size + 1) 23 (B8 b) := by rw [hW1]; exact (Blk.newAt _ _ 23 (B8 b) (by simp)).alloc _
  have k3 : Blk W1 (w.heap.size + 1 + 1) 23 Z16 := by rw [hW1]; exact Blk.newAt _ _ 23 Z16 (by simp)
  have b1 : Below w.heap.size w W1 := by rw [hW1]; exact (((Below.refl _ _).alloc (Nat.le_refl _) _).alloc (by simp) _).alloc (by simp; omega) _
  have HC1 := Lib.hid (fun W (h : W.heap = W1.heap) => conv_at w.heap.size 0 16 a W (fun j u hu => by rw [Nat.zero_add, Blk.cell (show Blk W w.heap.size 23 (B8 a) by unfold Blk; rw [h]; exact k1)]; exact hu))
  have HC2 := Lib.hid (fun W (h : W.heap = W1.heap) => conv_at (w.heap.size + 1) 0 16 b W (fun j u hu => by rw [Nat.zero_add, Blk.cell (show Blk W (w.heap.size + 1) 23 (B8 b) by unfold Blk; rw [h]; exact k2)]; exact hu))
  rw [ha] at HC1
  rw [hb] at HC2
  have G1 := Lib.hid (show w.heap.size + 1 + 1 + 1 = W1.heap.size by rw [hW1]; simp)
  have K3 := Lib.hid k3
  have B1 := Lib.hid b1
  have HW := Lib.hid hW1
  clear k1 k2 k3 b1 hW1 ha hb ht
  go_enter Tryd.func46, Tryd.ntmps46
  go_wp2_with fail
  rw [← HW.out]
  refine wp_region_still_tail 4 (by kernel_rfl) (by kernel_rfl) ?_
  obtain ⟨Wd, hWd, hh, hbd⟩ : ∃ Wd, Wd = { W1 with drawn := W1.drawn + 1 } ∧ Wd.heap = W1.heap ∧ Below w.heap.size w Wd := ⟨_, rfl, rfl, B1.out.drew⟩
  have hc1 := HC1.out Wd hh
  have hc2 := HC2.out Wd hh
  rw [← hWd]
  have HH := Lib.hid hh
  have BD := Lib.hid hbd
  clear hWd hh hbd
  simp only [List.take_succ_cons, List.take_zero, List.drop_succ_cons, List.drop_zero]
  refine wpStill_step (fun K hK => ?_); go_simp; refine hK _ ?_; clear hK K
  refine wpStill_step (fun K hK => ?_); go_simp; refine hK _ ?_; clear hK K
  refine wpStill_step (fun K hK => ?_); go_simp; refine hK _ ?_; clear hK K
  refine wpStill_step (fun K hK => ?_); go_simp; refine hK _ ?_; clear hK K
  refine wpStill_nil ?_
  go_wp2_with fail
  have B3 := Lib.hid (BD.out.alloc BD.out.size (.cells #[.string (bs a), .string (bs b)] 9))
  have K4 := Lib.hid (show Blk (Wd.alloc (.cells #[.string (bs a), .string (bs b)] 9)) (w.heap.size + 1 + 1) 23 Z16 from Blk.alloc (show Blk Wd (w.heap.size + 1 + 1) 23 Z16 by unfold Blk; rw [HH.out]; exact K3.out) _)
  refine (of_new 4 4 (by rfl) [bs a, bs b] 2 rfl HI.out Wd _ rfl _ rfl (HT.out.below B3.out HT.out.1) R (Lib.hid (by rw [hR.out]; rfl))).mono ?_; rintro e w5 ⟨rfl, hb5⟩
  have B5 := Lib.hid (B3.out.trans (hb5.mono B3.out.size))
  have K5 := Lib.hid (show w5.heap[w.heap.size + 1 + 1]? = some (.cells Z16.toArray 23 (0, 0)) from K4.out.below hb5 K4.out.lt)
  clear hb5 hc1 hc2
  go_wp2_with (with_reducible refine wpList_store_row rfl 23 (.tmp 4) (.tmp 10) rfl (w.heap.size + 1 + 1) (B8 R).toArray rfl rfl 23 _ K5.out (size23' _ HRl.out) (Z16_size _ HRl.out) (one8 _) ?_)
  refine bodyPost_ret (v := .agg (B8 R).toArray) ?_ rfl ⟨rfl, belowRow B5.out (by omega) _⟩
  have hr := run_loadVar_row (P := Tryd.prog) _ (w.heap.size + 1 + 1) 23 23 (B8 R).toArray (0, 0) (.array 16 5) (heap_setRow w5 (w.heap.size + 1 + 1) (B8 R).toArray _ 23 K5.out) Tryd.underlying23 rfl (size23' _ HRl.out)
  simp [results, Tryd.results46, asAddr, hr, Act.put]
end Go.Proofs.YtgonidjajmjniaaDoor

namespace Go.Proofs.YtgonidjajmjniaaDoor
open Go.RowKit Wr Sh
set_option linter.unusedVariables false
set_option maxRecDepth 100000

theorem int_s (n : Int) (w : World) (h : okInt n) (E : List UInt8) (hE : Hid (E = enc n)) (M : Nat) (hM : Hid (M = E.length)) :
    Calls Tryd.prog 28 #[.int .i64 n] w fun e w' => ∃ (A' : Option Addr) (c' : Nat), e = .returned (.slice A' M c') ∧ M ≤ c' ∧ Rd w' w'.heap.size A' (B8 E) ∧ Below w.heap.size w w' := by
  rw [hM.out, hE.out]
  refine (int_any n w h.1 h.2).mono ?_
  rintro e w' ⟨v, rfl, ho, hb⟩
  obtain ⟨A', c', rfl, h1, _, h3⟩ := own_form ho
  exact ⟨A', c', rfl, h1, h3, hb⟩

set_option maxHeartbeats 2000000 in
theorem digest_any (p : List UInt8) (n : Int) (m : ByteArray) (w : World) (hp : p.length = 16) (hn : okInt n) (hm : m.size ≤ 1073741824) (ht : Tab 1 w) (R : List UInt8) (hR : Hid (R = digOf p n m)) :
    Calls Tryd.prog 16 #[.agg (B8 p).toArray, .int .i64 n, .string m] w fun e w' => e = .returned (.agg (B8 R).toArray) ∧ Below w.heap.size w w' := by
  obtain ⟨E, hE⟩ : ∃ E, E = enc n := ⟨_, rfl⟩
  obtain ⟨M, hM⟩ : ∃ M, M = E.length := ⟨_, rfl⟩
  have hM0 : 0 < M := by rw [hM, hE]; exact (enc_le n).1
  have hM1 : M ≤ 9 := by rw [hM, hE]; exact (enc_le n).2
  have HI := Lib.hid (show (inp 5 [bs p, bs E, m]).length ≤ 274877906944 by
    have h1 := inp_cons 5 (bs p) [bs E, m]
    have h2 := inp_cons 5 (bs E) [m]
    have h3 := inp_cons 5 m []
    have h4 := inp_nil 5
    rw [bs_size] at h1 h2
    omega)
  have HE := Lib.hid hE
  have HM := Lib.hid hM
  have HN := Lib.hid hn
  have HT := Lib.hid ht
  have HR2 := Lib.hid (show R = dof 5 [bs p, bs E, m] by rw [hR.out, HE.out]; rfl)
  have HRl := Lib.hid (show R.length = 16 by rw [hR.out]; exact dof_len _ _)
  have hZ := hZ16
  have HC1 := Lib.hid (fun W (h : Blk W w.heap.size 23 (B8 p)) => conv_at w.heap.size 0 16 p W (fun j u hu => by rw [Nat.zero_add, h.cell]; exact hu))
  rw [hp] at HC1
  obtain ⟨W1, hW1⟩ : ∃ W, W = (w.alloc (.cells (B8 p).toArray 23)).alloc (.cells Z16.toArray 23) := ⟨_, rfl⟩
  have K1 := Lib.hid (show Blk W1 w.heap.size 23 (B8 p) by rw [hW1]; exact (Blk.new w 23 (B8 p)).alloc _)
  have K2 := Lib.hid (show Blk W1 (w.heap.size + 1) 23 Z16 by rw [hW1]; exact Blk.newAt _ _ 23 Z16 (by simp))
  have B1 := Lib.hid (show Below w.heap.size w W1 by rw [hW1]; exact ((Below.refl _ _).alloc (Nat.le_refl _) _).alloc (by simp) _)
  have HW := Lib.hid hW1
  clear hW1 hE hM hn ht hp hR
  go_enter Tryd.func16, Tryd.ntmps16
  go_wp2_with fail
  rw [← HW.out]
  refine wp_region_held (S := fun W => Blk W w.heap.size 23 (B8 p)) (by kernel_rfl) ?_
  change wpAnyH _ _ _ _ _ _ _ _ (World.drew W1)
  have hS0 : Blk (World.drew W1) w.heap.size 23 (B8 p) := K1.out
  have hB0 : Below w.heap.size w (World.drew W1) := B1.out.drew
  have hG0 : Blk (World.drew W1) (w.heap.size + 1) 23 Z16 := K2.out
  generalize World.drew W1 = Wd at hS0 hB0 hG0 ⊢
  refine wpAnyH_take (i := 0) (oi := { dst := some 7, op := Op.slice 23 (Operand.tmp 3) none none none, type := 54, pos := "sign.go:51", after := #[], guard := none }) (v := .slice (some ⟨w.heap.size, 0, none⟩) 16 16) rfl (by kernel_rfl) (by kernel_rfl) (by kernel_rfl) (fun _ _ _ h => h) (Or.inl ⟨by rfl, fun W hW => ?y1⟩) hS0 ?_
  case y1 => go_simp
  try dsimp only [Act.put]
  try simp only [List.setIfInBounds_toArray, List.set_cons_zero, List.set_cons_succ]
  refine wpAnyH_take (i := 1) (oi := { dst := some 8, op := Op.convert 54 9 (Operand.tmp 7), type := 9, pos := "sign.go:51", after := #[{ on := 0, ground := Ground.data }], guard := none }) (v := .string (bs p)) rfl (by kernel_rfl) (by kernel_rfl) (by kernel_rfl) (fun _ _ _ h => h) (Or.inl ⟨by rfl, fun W hW => by have hcv := HC1.out W hW; go_simp; rfl⟩) hS0 ?_
  try dsimp only [Act.put]
  try simp only [List.setIfInBounds_toArray, List.set_cons_zero, List.set_cons_succ]
  refine wpAnyH_take (i := 2) (oi := { dst := some 9, op := Op.move (Operand.tmp 1), type := 3, pos := "sign.go:51", after := #[], guard := none }) (v := .int .i64 n) rfl (by kernel_rfl) (by kernel_rfl) (by kernel_rfl) (fun _ _ _ h => h) (Or.inl ⟨by rfl, fun W hW => ?y3⟩) hS0 ?_
  case y3 => go_simp
  try dsimp only [Act.put]
  try simp only [List.setIfInBounds_toArray, List.set_cons_zero, List.set_cons_succ]
  refine wpAnyH_take (i := 5) (oi := { dst := some 12, op := Op.move (Operand.tmp 2), type := 9, pos := "sign.go:51", after := #[], guard := none }) (v := .string m) rfl (by kernel_rfl) (by kernel_rfl) (by kernel_rfl) (fun _ _ _ h => h) (Or.inl ⟨by rfl, fun W hW => ?y4⟩) hS0 ?_
  case y4 => go_simp
  try dsimp only [Act.put]
  try simp only [List.setIfInBounds_toArray, List.set_cons_zero, List.set_cons_succ]
  refine wpAnyH_ready (rs := [3]) (by kernel_rfl) (by simp) ?_
  refine AllReadyH.cons (o := { dst := some 10, op := Op.call { callee := Callee.value (Operand.func 28), args := #[Operand.tmp 9], argTypes := #[3] }, type := 54, pos := "sign.go:51", after := #[{ on := 2, ground := Ground.data }], guard := none }) rfl (fun K hK => ?_) AllReadyH.nil
  rw [if_pos (by rfl)]
  go_simp
  refine (int_s n _ HN.out E HE M HM).mono ?_; rintro e w2 ⟨A2, c2, rfl, hc2, hr2, hb2⟩
  have hB2 := hB0.trans (hb2.mono hB0.size)
  have hS2 := hS0.below hb2 hS0.lt
  have hG2 := hG0.below hb2 hG0.lt
  have hcv := conv_rd A2 E c2 _ w2 hr2 M HM.out hM0
  clear hb2 hr2
  go_wp2_with fail
  refine hK.out _ _ hS2 (fun _ => ?_)
  clear hK K
  try dsimp only [Act.put]
  try simp only [List.setIfInBounds_toArray, List.set_cons_zero, List.set_cons_succ]
  refine wpAnyH_ready (rs := [4]) (by kernel_rfl) (by simp) ?_
  refine AllReadyH.cons (o := { dst := some 11, op := Op.convert 54 9 (Operand.tmp 10), type := 9, pos := "sign.go:51", after := #[{ on := 3, ground := Ground.data }], guard := none }) rfl (fun K hK => ?_) AllReadyH.nil
  rw [if_pos (by rfl)]
  go_simp
  refine hK.out _ _ hS2 (fun _ => ?_)
  clear hK K
  try dsimp only [Act.put]
  try simp only [List.setIfInBounds_toArray, List.set_cons_zero, List.set_cons_succ]
  refine wpAnyH_ready (rs := [6]) (by kernel_rfl) (by simp) ?_
  refine AllReadyH.cons (o := { dst := some 13, op := Op.buildSlice 62 3 #[(0, Operand.tmp 8), (1, Operand.tmp 11), (2, Operand.tmp 12)], type := 62, pos := "sign.go:51", after := #[{ on := 1, ground := Ground.data }, { on := 4, ground := Ground.data }, { on := 5, ground := Ground.data }], guard := none }) rfl (fun K hK => ?_) AllReadyH.nil
  rw [if_pos (by rfl)]
  go_simp
  refine hK.out _ _ (hS2.alloc _) (fun _ => ?_)
  clear hK K
  try dsimp only [Act.put]
  try simp only [List.setIfInBounds_toArray, List.set_cons_zero, List.set_cons_succ]
  refine wpAnyH_ready (rs := [7]) (by kernel_rfl) (by simp) ?_
  refine AllReadyH.cons (o := { dst := some 14, op := Op.call { callee := Callee.value (Operand.func 35), args := #[Operand.const (Value.int IntKind.i64 5), Operand.tmp 13], argTypes := #[3, 62] }, type := 23, pos := "sign.go:51", after := #[{ on := 6, ground := Ground.data }, { on := 3, ground := Ground.chain }], guard := none }) rfl (fun K hK => ?_) AllReadyH.nil
  rw [if_pos (by rfl)]
  go_simp
  have B3 := hB2.alloc hB2.size (.cells #[.string (bs p), .string (bs E), .string m] 9)
  have hG3 := hG2.alloc (.cells #[.string (bs p), .string (bs E), .string m] 9)
  have hS3 := hS2.alloc (.cells #[.string (bs p), .string (bs E), .string m] 9)
  refine (of_new 5 5 (by rfl) [bs p, bs E, m] 3 rfl HI.out w2 _ rfl _ rfl (HT.out.below B3 HT.out.1) R HR2).mono ?_; rintro e w5 ⟨rfl, hb5⟩
  have hB5 := B3.trans (hb5.mono B3.size)
  have hS5 := hS3.below hb5 hS3.lt
  have hG5 : w5.heap[w.heap.size + 1]? = some (.cells Z16.toArray 23 (0, 0)) := hG3.below hb5 hG3.lt
  clear hb5 B3 hG3 hS3 hcv
  go_wp2_with fail
  refine hK.out _ _ hS5 (fun _ => ?_)
  clear hK K
  try dsimp only [Act.put]
  try simp only [List.setIfInBounds_toArray, List.set_cons_zero, List.set_cons_succ]
  refine wpAnyH_ready (rs := [8]) (by kernel_rfl) (by simp) ?_
  refine AllReadyH.cons (o := { dst := none, op := Op.store 23 (Operand.tmp 6) (Operand.tmp 14), type := 0, pos := "sign.go:51", after := #[{ on := 7, ground := Ground.data }, { on := 7, ground := Ground.chain }, { on := 0, ground := Ground.phase }, { on := 1, ground := Ground.phase }, { on := 2, ground := Ground.phase }, { on := 3, ground := Ground.phase }, { on := 4, ground := Ground.phase }, { on := 5, ground := Ground.phase }, { on := 6, ground := Ground.phase }, { on := 7, ground := Ground.phase }], guard := none }) rfl (fun K hK => ?_) AllReadyH.nil
  rw [if_pos (by rfl)]
  refine wp_store_row 23 (.tmp 6) (.tmp 14) rfl (w.heap.size + 1) (B8 R).toArray rfl rfl 23 _ hG5 (size23' _ HRl.out) (Z16_size _ HRl.out) (one8 _) ?_
  refine hK.out _ _ (hS5.setRow (by omega) _) (fun _ => ?_)
  clear hK K
  try dsimp only [Act.put]
  try simp only [List.setIfInBounds_toArray, List.set_cons_zero, List.set_cons_succ]
  refine wpAnyH_done (by kernel_rfl) ?_ _
  try dsimp only [Act.put]
  try simp only [List.setIfInBounds_toArray, List.set_cons_zero, List.set_cons_succ]
  go_wp2_with fail
  refine bodyPost_ret (v := .agg (B8 R).toArray) ?_ rfl ⟨rfl, belowRow hB5 (by omega) _⟩
  have hr := run_loadVar_row (P := Tryd.prog) _ (w.heap.size + 1) 23 23 (B8 R).toArray (0, 0) (.array 16 5) (heap_setRow w5 (w.heap.size + 1) (B8 R).toArray _ 23 hG5) Tryd.underlying23 rfl (size23' _ HRl.out)
  simp [results, Tryd.results16, asAddr, hr]
end Go.Proofs.YtgonidjajmjniaaDoor

namespace Go.Proofs.YtgonidjajmjniaaDoor
open Go.RowKit Wr Sh
set_option linter.unusedVariables false
set_option maxRecDepth 100000

/-- What stays: the value's block, the result's block, all that was there. -/
structure Keep (w : World) (D : List UInt8) (W : World) : Prop where
  d : Blk W w.heap.size 23 (B8 D)
  z : Blk W (w.heap.size + 1) 23 Z16
  b : Below w.heap.size w W
theorem Keep.alloc {w W : World} {D : List UInt8} (h : Keep w D W) (o : Obj) : Keep w D (W.alloc o) := ⟨h.d.alloc _, h.z.alloc _, h.b.alloc h.b.size _⟩
theorem Keep.drew {w W : World} {D : List UInt8} (h : Keep w D W) : Keep w D W.drew := ⟨h.d, h.z, h.b.drew⟩
theorem Keep.below {w W W' : World} {D : List UInt8} (h : Keep w D W) (hb : Below W.heap.size W W') : Keep w D W' := ⟨h.d.below hb h.d.lt, h.z.below hb h.z.lt, h.b.trans (hb.mono h.b.size)⟩
theorem Keep.row {w W : World} {D : List UInt8} (h : Keep w D W) (R : List UInt8) : Keep w R (W.setRow w.heap.size (B8 R).toArray) := ⟨h.d.row _, h.z.setRow (by omega) _, belowRow h.b (Nat.le_refl _) _⟩

set_option maxHeartbeats 4000000 in
theorem advance_any (v : List UInt8) (i c F T : Int) (k : Nat) (w : World) (hv : v.length = 16) (hi : okInt i) (hc : okInt c) (hF0 : 0 ≤ F) (hT : Hid (T = F + (k : Int))) (hT1 : T ≤ 1000) (ht : Tab 1 w) (RF : List UInt8) (hR : Hid (RF = adv i c F v k)) :
    Calls Tryd.prog 29 #[.agg (B8 v).toArray, .int .i64 i, .int .i64 c, .int .i64 F, .int .i64 T] w fun e w' => e = .returned (.agg (B8 RF).toArray) ∧ Below w.heap.size w w' := by
  have hTa : T ≤ F + (k : Int) := by have := hT.out; omega
  have hTb : F + (k : Int) ≤ T := by have := hT.out; omega
  have HV := Lib.hid hv
  have HRl0 := Lib.hid (show RF.length = 16 by rw [hR.out]; exact adv_len _ _ _ _ hv _)
  have HTab := Lib.hid ht
  have HOI := Lib.hid (And.intro hi hc)
  have hZ := hZ16
  have KS := Lib.hid (show Keep w (adv i c F v 0) ((w.alloc (.cells (B8 v).toArray 23)).alloc (.cells Z16.toArray 23)) from ⟨(Blk.new w 23 (B8 v)).alloc _, Blk.newAt _ _ 23 Z16 (by simp), ((Below.refl _ _).alloc (Nat.le_refl _) _).alloc (by simp) _⟩)
  have HRR := hR
  clear hv hi hc ht hR
  go_enter Tryd.func29, Tryd.ntmps29
  go_wp2_with fail
  go_loopw [11] (fun s11 wr => ∃ j : Nat, j ≤ k ∧ s11 = .int .i64 (F + (j : Int)) ∧ Keep w (adv i c F v j) wr)
    (fun s11 _ => (T - intOf s11).toNat)
  case atStart => exact ⟨0, by omega, by simp, KS.out⟩
  case round =>
  obtain ⟨j, hj, rfl, hkp⟩ := hrel
  clear KS
  by_cases hlt : j < k
  · have hlt2 : F + (j : Int) < T := by omega
    obtain ⟨D, hD⟩ : ∃ D, D = adv i c F v j := ⟨_, rfl⟩
    rw [← hD] at hkp
    obtain ⟨E, hE⟩ : ∃ E, E = encInts [i, c, F + (j : Int)] := ⟨_, rfl⟩
    obtain ⟨M, hM⟩ : ∃ M, M = E.length := ⟨_, rfl⟩
    have hM1 : M ≤ 36 := by rw [hM, hE]; exact ints_le _
    have hM0 : 0 < M := by rw [hM, hE]; unfold encInts encList; rw [List.length_append]; have := (enc_le (([i, c, F + (j : Int)] : List Int).length : Int)).1; omega
    have HDl := Lib.hid (show D.length = 16 by rw [hD]; exact adv_len _ _ _ _ HV.out _)
    have HE := Lib.hid hE
    have HM := Lib.hid hM
    have HO := Lib.hid (ok3 HOI.out.1 HOI.out.2 (show okInt (F + (j : Int)) from ⟨by omega, by omega⟩))
    have HI := Lib.hid (inp_2 1 E D (by rw [← hM]; omega) (by rw [HDl.out]; omega))
    obtain ⟨R, hR'⟩ : ∃ R, R = dof 1 [bs E, bs D] := ⟨_, rfl⟩
    have HRA := Lib.hid (show R = adv i c F v (j + 1) by rw [hR', hE, hD]; rfl)
    have HR := Lib.hid hR'
    have HRl := Lib.hid (show R.length = 16 by rw [hR']; exact dof_len _ _)
    have HT := HTab
    have HCD := Lib.hid (fun W (h : Keep w D W) => show (convert 54 9 (.slice (some ⟨w.heap.size, 0, none⟩) 16 16)).run Tryd.prog W = .ok (.string (bs D)) W by
      have := conv_at w.heap.size 0 16 D W (fun j u hu => by rw [Nat.zero_add, h.d.cell]; exact hu)
      rw [HDl.out] at this; exact this)
    clear hD hE hM hR'
    go_wp2_with fail
    refine wp_region_any (by kernel_rfl) ?_
    change wpAny _ _ _ _ _ _ _ (World.drew wr)
    have k0 : Keep w D (World.drew wr) := hkp.drew
    generalize World.drew wr = Wd at k0 ⊢
    refine wpAny_take (i := 0) (oi := { dst := some 18, op := Op.move (Operand.tmp 1), type := 3, pos := "sign.go:128", after := #[], guard := none }) (v := .int .i64 i) rfl (by kernel_rfl) (by kernel_rfl) (by kernel_rfl) (fun _ _ _ h => h) (Or.inl ⟨by rfl, fun W => ?y0⟩) ?_
    case y0 => go_simp
    try dsimp only [Act.put]
    try simp only [List.setIfInBounds_toArray, List.set_cons_zero, List.set_cons_succ]
    refine wpAny_take (i := 1) (oi := { dst := some 19, op := Op.move (Operand.tmp 2), type := 3, pos := "sign.go:128", after := #[], guard := none }) (v := .int .i64 c) rfl (by kernel_rfl) (by kernel_rfl) (by kernel_rfl) (fun _ _ _ h => h) (Or.inl ⟨by rfl, fun W => ?y1⟩) ?_
    case y1 => go_simp
    try dsimp only [Act.put]
    try simp only [List.setIfInBounds_toArray, List.set_cons_zero, List.set_cons_succ]
    refine wpAny_take (i := 2) (oi := { dst := some 20, op := Op.move (Operand.tmp 11), type := 3, pos := "sign.go:128", after := #[], guard := none }) (v := .int .i64 (F + (j : Int))) rfl (by kernel_rfl) (by kernel_rfl) (by kernel_rfl) (fun _ _ _ h => h) (Or.inl ⟨by rfl, fun W => ?y2⟩) ?_
    case y2 => go_simp
    try dsimp only [Act.put]
    try simp only [List.setIfInBounds_toArray, List.set_cons_zero, List.set_cons_succ]
    refine wpAny_take (i := 6) (oi := { dst := some 24, op := Op.slice 23 (Operand.tmp 5) none none none, type := 54, pos := "sign.go:128", after := #[], guard := none }) (v := .slice (some ⟨w.heap.size, 0, none⟩) 16 16) rfl (by kernel_rfl) (by kernel_rfl) (by kernel_rfl) (fun _ _ _ h => h) (Or.inl ⟨by rfl, fun W => ?y6⟩) ?_
    case y6 => go_simp
    try dsimp only [Act.put]
    try simp only [List.setIfInBounds_toArray, List.set_cons_zero, List.set_cons_succ]
    refine wpAny_ready (rs := [3, 7]) (by kernel_rfl) (by simp) ?_
    refine AllReady.cons (o := { dst := some 21, op := Op.buildSlice 25 3 #[(0, Operand.tmp 18), (1, Operand.tmp 19), (2, Operand.tmp 20)], type := 25, pos := "sign.go:128", after := #[{ on := 0, ground := Ground.data }, { on := 1, ground := Ground.data }, { on := 2, ground := Ground.data }], guard := none }) rfl (fun K hK => ?_) (AllReady.cons (o := { dst := some 25, op := Op.convert 54 9 (Operand.tmp 24), type := 9, pos := "sign.go:128", after := #[{ on := 6, ground := Ground.data }], guard := none }) rfl (fun K hK => ?_) AllReady.nil)
    · rw [if_pos (by rfl)]
      have k1 := k0.alloc (.cells #[.int .i64 i, .int .i64 c, .int .i64 (F + (j : Int))] 3)
      go_simp
      (try (refine hK _ _ ?_; clear hK K))
      try dsimp only [Act.put]
      try simp only [List.setIfInBounds_toArray, List.set_cons_zero, List.set_cons_succ]
      refine wpAny_ready (rs := [4, 7]) (by kernel_rfl) (by simp) ?_
      refine AllReady.cons (o := { dst := some 22, op := Op.call { callee := Callee.value (Operand.func 49), args := #[Operand.tmp 21], argTypes := #[25] }, type := 54, pos := "sign.go:128", after := #[{ on := 3, ground := Ground.data }], guard := none }) rfl (fun K hK => ?_) (AllReady.cons (o := { dst := some 25, op := Op.convert 54 9 (Operand.tmp 24), type := 9, pos := "sign.go:128", after := #[{ on := 6, ground := Ground.data }], guard := none }) rfl (fun K hK => ?_) AllReady.nil)
      · rw [if_pos (by rfl)]
        go_simp
        refine (ints_new [i, c, F + (j : Int)] 3 rfl Wd _ rfl (by omega) HO.out E HE M HM _ rfl).mono ?_; rintro e w2 ⟨A2, c2, rfl, hc2, hr2, hb2⟩
        have k2 := k1.below hb2
        have hcv := conv_rd A2 E c2 _ w2 hr2 M HM.out hM0
        clear hb2 hr2
        go_wp2_with fail
        (try (refine hK _ _ ?_; clear hK K))
        try dsimp only [Act.put]
        try simp only [List.setIfInBounds_toArray, List.set_cons_zero, List.set_cons_succ]
        refine wpAny_ready (rs := [5, 7]) (by kernel_rfl) (by simp) ?_
        refine AllReady.cons (o := { dst := some 23, op := Op.convert 54 9 (Operand.tmp 22), type := 9, pos := "sign.go:128", after := #[{ on := 4, ground := Ground.data }], guard := none }) rfl (fun K hK => ?_) (AllReady.cons (o := { dst := some 25, op := Op.convert 54 9 (Operand.tmp 24), type := 9, pos := "sign.go:128", after := #[{ on := 6, ground := Ground.data }], guard := none }) rfl (fun K hK => ?_) AllReady.nil)
        · rw [if_pos (by rfl)]
          go_simp
          (try (refine hK _ _ ?_; clear hK K))
          try dsimp only [Act.put]
          try simp only [List.setIfInBounds_toArray, List.set_cons_zero, List.set_cons_succ]
          refine wpAny_ready (rs := [7]) (by kernel_rfl) (by simp) ?_
          refine AllReady.cons (o := { dst := some 25, op := Op.convert 54 9 (Operand.tmp 24), type := 9, pos := "sign.go:128", after := #[{ on := 6, ground := Ground.data }], guard := none }) rfl (fun K hK => ?_) AllReady.nil
          rw [if_pos (by rfl)]
          have hcd := HCD.out _ k2
          go_simp
          clear hcd
          (try (refine hK _ _ ?_; clear hK K))
          try dsimp only [Act.put]
          try simp only [List.setIfInBounds_toArray, List.set_cons_zero, List.set_cons_succ]
          refine wpAny_ready (rs := [8]) (by kernel_rfl) (by simp) ?_
          refine AllReady.cons (o := { dst := some 26, op := Op.buildSlice 62 2 #[(0, Operand.tmp 23), (1, Operand.tmp 25)], type := 62, pos := "sign.go:128", after := #[{ on := 5, ground := Ground.data }, { on := 7, ground := Ground.data }], guard := none }) rfl (fun K hK => ?_) AllReady.nil
          rw [if_pos (by rfl)]
          go_simp
          (try (refine hK _ _ ?_; clear hK K))
          try dsimp only [Act.put]
          try simp only [List.setIfInBounds_toArray, List.set_cons_zero, List.set_cons_succ]
          refine wpAny_ready (rs := [9]) (by kernel_rfl) (by simp) ?_
          refine AllReady.cons (o := { dst := some 27, op := Op.call { callee := Callee.value (Operand.func 35), args := #[Operand.const (Value.int IntKind.i64 1), Operand.tmp 26], argTypes := #[3, 62] }, type := 23, pos := "sign.go:128", after := #[{ on := 8, ground := Ground.data }, { on := 4, ground := Ground.chain }], guard := none }) rfl (fun K hK => ?_) AllReady.nil
          rw [if_pos (by rfl)]
          go_simp
          have k3 := k2.alloc (.cells #[.string (bs E), .string (bs D)] 9)
          refine (of_new 1 1 (by rfl) [bs E, bs D] 2 rfl HI.out w2 _ rfl _ rfl (HT.out.below k3.b HT.out.1) R HR).mono ?_; rintro e w5 ⟨rfl, hb5⟩
          have k5 := k3.below hb5
          have K5 : w5.heap[w.heap.size]? = some (.cells (B8 D).toArray 23 (0, 0)) := k5.d
          clear hb5 k3
          go_wp2_with fail
          (try (refine hK _ _ ?_; clear hK K))
          try dsimp only [Act.put]
          try simp only [List.setIfInBounds_toArray, List.set_cons_zero, List.set_cons_succ]
          refine wpAny_ready (rs := [10]) (by kernel_rfl) (by simp) ?_
          refine AllReady.cons (o := { dst := none, op := Op.store 23 (Operand.tmp 5) (Operand.tmp 27), type := 0, pos := "sign.go:128", after := #[{ on := 9, ground := Ground.data }, { on := 9, ground := Ground.chain }, { on := 0, ground := Ground.phase }, { on := 1, ground := Ground.phase }, { on := 2, ground := Ground.phase }, { on := 3, ground := Ground.phase }, { on := 4, ground := Ground.phase }, { on := 5, ground := Ground.phase }, { on := 6, ground := Ground.phase }, { on := 7, ground := Ground.phase }, { on := 8, ground := Ground.phase }, { on := 9, ground := Ground.phase }], guard := none }) rfl (fun K hK => ?_) AllReady.nil
          rw [if_pos (by rfl)]
          refine wp_store_row 23 (.tmp 5) (.tmp 27) rfl w.heap.size (B8 R).toArray rfl rfl 23 _ K5 (size23' _ HRl.out) (by rw [List.size_toArray, List.size_toArray, B8_len, B8_len, HRl.out, HDl.out]) (one8 _) ?_
          have X : Keep w (adv i c F v (j + 1)) (w5.setRow w.heap.size (B8 R).toArray) := by rw [← HRA.out]; exact k5.row R
          refine hK _ _ ?_
          clear hK K
          refine wpAny_done (by kernel_rfl) ?_ _
          try dsimp only [Act.put]
          try simp only [List.setIfInBounds_toArray, List.set_cons_zero, List.set_cons_succ]
          go_wp2_with fail
          go_roundw
          case rel => exact ⟨j + 1, by omega, by rw [Int.natCast_add, Int.natCast_one, Int.add_assoc], X⟩
          case measure => simp only [intOf]; omega
        · rw [if_pos (by rfl)]
          have hcd := HCD.out _ k2
          go_simp
          clear hcd
          (try (refine hK _ _ ?_; clear hK K))
          try dsimp only [Act.put]
          try simp only [List.setIfInBounds_toArray, List.set_cons_zero, List.set_cons_succ]
          refine wpAny_ready (rs := [5]) (by kernel_rfl) (by simp) ?_
          refine AllReady.cons (o := { dst := some 23, op := Op.convert 54 9 (Operand.tmp 22), type := 9, pos := "sign.go:128", after := #[{ on := 4, ground := Ground.data }], guard := none }) rfl (fun K hK => ?_) AllReady.nil
          rw [if_pos (by rfl)]
          go_simp
          (try (refine hK _ _ ?_; clear hK K))
          try dsimp only [Act.put]
          try simp only [List.setIfInBounds_toArray, List.set_cons_zero, List.set_cons_succ]
          refine wpAny_ready (rs := [8]) (by kernel_rfl) (by simp) ?_
          refine AllReady.cons (o := { dst := some 26, op := Op.buildSlice 62 2 #[(0, Operand.tmp 23), (1, Operand.tmp 25)], type := 62, pos := "sign.go:128", after := #[{ on := 5, ground := Ground.data }, { on := 7, ground := Ground.data }], guard := none }) rfl (fun K hK => ?_) AllReady.nil
          rw [if_pos (by rfl)]
          go_simp
          (try (refine hK _ _ ?_; clear hK K))
          try dsimp only [Act.put]
          try simp only [List.setIfInBounds_toArray, List.set_cons_zero, List.set_cons_succ]
          refine wpAny_ready (rs := [9]) (by kernel_rfl) (by simp) ?_
          refine AllReady.cons (o := { dst := some 27, op := Op.call { callee := Callee.value (Operand.func 35), args := #[Operand.const (Value.int IntKind.i64 1), Operand.tmp 26], argTypes := #[3, 62] }, type := 23, pos := "sign.go:128", after := #[{ on := 8, ground := Ground.data }, { on := 4, ground := Ground.chain }], guard := none }) rfl (fun K hK => ?_) AllReady.nil
          rw [if_pos (by rfl)]
          go_simp
          have k3 := k2.alloc (.cells #[.string (bs E), .string (bs D)] 9)
          refine (of_new 1 1 (by rfl) [bs E, bs D] 2 rfl HI.out w2 _ rfl _ rfl (HT.out.below k3.b HT.out.1) R HR).mono ?_; rintro e w5 ⟨rfl, hb5⟩
          have k5 := k3.below hb5
          have K5 : w5.heap[w.heap.size]? = some (.cells (B8 D).toArray 23 (0, 0)) := k5.d
          clear hb5 k3
          go_wp2_with fail
          (try (refine hK _ _ ?_; clear hK K))
          try dsimp only [Act.put]
          try simp only [List.setIfInBounds_toArray, List.set_cons_zero, List.set_cons_succ]
          refine wpAny_ready (rs := [10]) (by kernel_rfl) (by simp) ?_
          refine AllReady.cons (o := { dst := none, op := Op.store 23 (Operand.tmp 5) (Operand.tmp 27), type := 0, pos := "sign.go:128", after := #[{ on := 9, ground := Ground.data }, { on := 9, ground := Ground.chain }, { on := 0, ground := Ground.phase }, { on := 1, ground := Ground.phase }, { on := 2, ground := Ground.phase }, { on := 3, ground := Ground.phase }, { on := 4, ground := Ground.phase }, { on := 5, ground := Ground.phase }, { on := 6, ground := Ground.phase }, { on := 7, ground := Ground.phase }, { on := 8, ground := Ground.phase }, { on := 9, ground := Ground.phase }], guard := none }) rfl (fun K hK => ?_) AllReady.nil
          rw [if_pos (by rfl)]
          refine wp_store_row 23 (.tmp 5) (.tmp 27) rfl w.heap.size (B8 R).toArray rfl rfl 23 _ K5 (size23' _ HRl.out) (by rw [List.size_toArray, List.size_toArray, B8_len, B8_len, HRl.out, HDl.out]) (one8 _) ?_
          have X : Keep w (adv i c F v (j + 1)) (w5.setRow w.heap.size (B8 R).toArray) := by rw [← HRA.out]; exact k5.row R
          refine hK _ _ ?_
          clear hK K
          refine wpAny_done (by kernel_rfl) ?_ _
          try dsimp only [Act.put]
          try simp only [List.setIfInBounds_toArray, List.set_cons_zero, List.set_cons_succ]
          go_wp2_with fail
          go_roundw
          case rel => exact ⟨j + 1, by omega, by rw [Int.natCast_add, Int.natCast_one, Int.add_assoc], X⟩
          case measure => simp only [intOf]; omega
      · rw [if_pos (by rfl)]
        have hcd := HCD.out _ k1
        go_simp
        clear hcd
        (try (refine hK _ _ ?_; clear hK K))
        try dsimp only [Act.put]
        try simp only [List.setIfInBounds_toArray, List.set_cons_zero, List.set_cons_succ]
        refine wpAny_ready (rs := [4]) (by kernel_rfl) (by simp) ?_
        refine AllReady.cons (o := { dst := some 22, op := Op.call { callee := Callee.value (Operand.func 49), args := #[Operand.tmp 21], argTypes := #[25] }, type := 54, pos := "sign.go:128", after := #[{ on := 3, ground := Ground.data }], guard := none }) rfl (fun K hK => ?_) AllReady.nil
        rw [if_pos (by rfl)]
        go_simp
        refine (ints_new [i, c, F + (j : Int)] 3 rfl Wd _ rfl (by omega) HO.out E HE M HM _ rfl).mono ?_; rintro e w2 ⟨A2, c2, rfl, hc2, hr2, hb2⟩
        have k2 := k1.below hb2
        have hcv := conv_rd A2 E c2 _ w2 hr2 M HM.out hM0
        clear hb2 hr2
        go_wp2_with fail
        (try (refine hK _ _ ?_; clear hK K))
        try dsimp only [Act.put]
        try simp only [List.setIfInBounds_toArray, List.set_cons_zero, List.set_cons_succ]
        refine wpAny_ready (rs := [5]) (by kernel_rfl) (by simp) ?_
        refine AllReady.cons (o := { dst := some 23, op := Op.convert 54 9 (Operand.tmp 22), type := 9, pos := "sign.go:128", after := #[{ on := 4, ground := Ground.data }], guard := none }) rfl (fun K hK => ?_) AllReady.nil
        rw [if_pos (by rfl)]
        go_simp
        (try (refine hK _ _ ?_; clear hK K))
        try dsimp only [Act.put]
        try simp only [List.setIfInBounds_toArray, List.set_cons_zero, List.set_cons_succ]
        refine wpAny_ready (rs := [8]) (by kernel_rfl) (by simp) ?_
        refine AllReady.cons (o := { dst := some 26, op := Op.buildSlice 62 2 #[(0, Operand.tmp 23), (1, Operand.tmp 25)], type := 62, pos := "sign.go:128", after := #[{ on := 5, ground := Ground.data }, { on := 7, ground := Ground.data }], guard := none }) rfl (fun K hK => ?_) AllReady.nil
        rw [if_pos (by rfl)]
        go_simp
        (try (refine hK _ _ ?_; clear hK K))
        try dsimp only [Act.put]
        try simp only [List.setIfInBounds_toArray, List.set_cons_zero, List.set_cons_succ]
        refine wpAny_ready (rs := [9]) (by kernel_rfl) (by simp) ?_
        refine AllReady.cons (o := { dst := some 27, op := Op.call { callee := Callee.value (Operand.func 35), args := #[Operand.const (Value.int IntKind.i64 1), Operand.tmp 26], argTypes := #[3, 62] }, type := 23, pos := "sign.go:128", after := #[{ on := 8, ground := Ground.data }, { on := 4, ground := Ground.chain }], guard := none }) rfl (fun K hK => ?_) AllReady.nil
        rw [if_pos (by rfl)]
        go_simp
        have k3 := k2.alloc (.cells #[.string (bs E), .string (bs D)] 9)
        refine (of_new 1 1 (by rfl) [bs E, bs D] 2 rfl HI.out w2 _ rfl _ rfl (HT.out.below k3.b HT.out.1) R HR).mono ?_; rintro e w5 ⟨rfl, hb5⟩
        have k5 := k3.below hb5
        have K5 : w5.heap[w.heap.size]? = some (.cells (B8 D).toArray 23 (0, 0)) := k5.d
        clear hb5 k3
        go_wp2_with fail
        (try (refine hK _ _ ?_; clear hK K))
        try dsimp only [Act.put]
        try simp only [List.setIfInBounds_toArray, List.set_cons_zero, List.set_cons_succ]
        refine wpAny_ready (rs := [10]) (by kernel_rfl) (by simp) ?_
        refine AllReady.cons (o := { dst := none, op := Op.store 23 (Operand.tmp 5) (Operand.tmp 27), type := 0, pos := "sign.go:128", after := #[{ on := 9, ground := Ground.data }, { on := 9, ground := Ground.chain }, { on := 0, ground := Ground.phase }, { on := 1, ground := Ground.phase }, { on := 2, ground := Ground.phase }, { on := 3, ground := Ground.phase }, { on := 4, ground := Ground.phase }, { on := 5, ground := Ground.phase }, { on := 6, ground := Ground.phase }, { on := 7, ground := Ground.phase }, { on := 8, ground := Ground.phase }, { on := 9, ground := Ground.phase }], guard := none }) rfl (fun K hK => ?_) AllReady.nil
        rw [if_pos (by rfl)]
        refine wp_store_row 23 (.tmp 5) (.tmp 27) rfl w.heap.size (B8 R).toArray rfl rfl 23 _ K5 (size23' _ HRl.out) (by rw [List.size_toArray, List.size_toArray, B8_len, B8_len, HRl.out, HDl.out]) (one8 _) ?_
        have X : Keep w (adv i c F v (j + 1)) (w5.setRow w.heap.size (B8 R).toArray) := by rw [← HRA.out]; exact k5.row R
        refine hK _ _ ?_
        clear hK K
        refine wpAny_done (by kernel_rfl) ?_ _
        try dsimp only [Act.put]
        try simp only [List.setIfInBounds_toArray, List.set_cons_zero, List.set_cons_succ]
        go_wp2_with fail
        go_roundw
        case rel => exact ⟨j + 1, by omega, by rw [Int.natCast_add, Int.natCast_one, Int.add_assoc], X⟩
        case measure => simp only [intOf]; omega
    · rw [if_pos (by rfl)]
      have hcd := HCD.out _ k0
      go_simp
      clear hcd
      (try (refine hK _ _ ?_; clear hK K))
      try dsimp only [Act.put]
      try simp only [List.setIfInBounds_toArray, List.set_cons_zero, List.set_cons_succ]
      refine wpAny_ready (rs := [3]) (by kernel_rfl) (by simp) ?_
      refine AllReady.cons (o := { dst := some 21, op := Op.buildSlice 25 3 #[(0, Operand.tmp 18), (1, Operand.tmp 19), (2, Operand.tmp 20)], type := 25, pos := "sign.go:128", after := #[{ on := 0, ground := Ground.data }, { on := 1, ground := Ground.data }, { on := 2, ground := Ground.data }], guard := none }) rfl (fun K hK => ?_) AllReady.nil
      rw [if_pos (by rfl)]
      have k1 := k0.alloc (.cells #[.int .i64 i, .int .i64 c, .int .i64 (F + (j : Int))] 3)
      go_simp
      (try (refine hK _ _ ?_; clear hK K))
      try dsimp only [Act.put]
      try simp only [List.setIfInBounds_toArray, List.set_cons_zero, List.set_cons_succ]
      refine wpAny_ready (rs := [4]) (by kernel_rfl) (by simp) ?_
      refine AllReady.cons (o := { dst := some 22, op := Op.call { callee := Callee.value (Operand.func 49), args := #[Operand.tmp 21], argTypes := #[25] }, type := 54, pos := "sign.go:128", after := #[{ on := 3, ground := Ground.data }], guard := none }) rfl (fun K hK => ?_) AllReady.nil
      rw [if_pos (by rfl)]
      go_simp
      refine (ints_new [i, c, F + (j : Int)] 3 rfl Wd _ rfl (by omega) HO.out E HE M HM _ rfl).mono ?_; rintro e w2 ⟨A2, c2, rfl, hc2, hr2, hb2⟩
      have k2 := k1.below hb2
      have hcv := conv_rd A2 E c2 _ w2 hr2 M HM.out hM0
      clear hb2 hr2
      go_wp2_with fail
      (try (refine hK _ _ ?_; clear hK K))
      try dsimp only [Act.put]
      try simp only [List.setIfInBounds_toArray, List.set_cons_zero, List.set_cons_succ]
      refine wpAny_ready (rs := [5]) (by kernel_rfl) (by simp) ?_
      refine AllReady.cons (o := { dst := some 23, op := Op.convert 54 9 (Operand.tmp 22), type := 9, pos := "sign.go:128", after := #[{ on := 4, ground := Ground.data }], guard := none }) rfl (fun K hK => ?_) AllReady.nil
      rw [if_pos (by rfl)]
      go_simp
      (try (refine hK _ _ ?_; clear hK K))
      try dsimp only [Act.put]
      try simp only [List.setIfInBounds_toArray, List.set_cons_zero, List.set_cons_succ]
      refine wpAny_ready (rs := [8]) (by kernel_rfl) (by simp) ?_
      refine AllReady.cons (o := { dst := some 26, op := Op.buildSlice 62 2 #[(0, Operand.tmp 23), (1, Operand.tmp 25)], type := 62, pos := "sign.go:128", after := #[{ on := 5, ground := Ground.data }, { on := 7, ground := Ground.data }], guard := none }) rfl (fun K hK => ?_) AllReady.nil
      rw [if_pos (by rfl)]
      go_simp
      (try (refine hK _ _ ?_; clear hK K))
      try dsimp only [Act.put]
      try simp only [List.setIfInBounds_toArray, List.set_cons_zero, List.set_cons_succ]
      refine wpAny_ready (rs := [9]) (by kernel_rfl) (by simp) ?_
      refine AllReady.cons (o := { dst := some 27, op := Op.call { callee := Callee.value (Operand.func 35), args := #[Operand.const (Value.int IntKind.i64 1), Operand.tmp 26], argTypes := #[3, 62] }, type := 23, pos := "sign.go:128", after := #[{ on := 8, ground := Ground.data }, { on := 4, ground := Ground.chain }], guard := none }) rfl (fun K hK => ?_) AllReady.nil
      rw [if_pos (by rfl)]
      go_simp
      have k3 := k2.alloc (.cells #[.string (bs E), .string (bs D)] 9)
      refine (of_new 1 1 (by rfl) [bs E, bs D] 2 rfl HI.out w2 _ rfl _ rfl (HT.out.below k3.b HT.out.1) R HR).mono ?_; rintro e w5 ⟨rfl, hb5⟩
      have k5 := k3.below hb5
      have K5 : w5.heap[w.heap.size]? = some (.cells (B8 D).toArray 23 (0, 0)) := k5.d
      clear hb5 k3
      go_wp2_with fail
      (try (refine hK _ _ ?_; clear hK K))
      try dsimp only [Act.put]
      try simp only [List.setIfInBounds_toArray, List.set_cons_zero, List.set_cons_succ]
      refine wpAny_ready (rs := [10]) (by kernel_rfl) (by simp) ?_
      refine AllReady.cons (o := { dst := none, op := Op.store 23 (Operand.tmp 5) (Operand.tmp 27), type := 0, pos := "sign.go:128", after := #[{ on := 9, ground := Ground.data }, { on := 9, ground := Ground.chain }, { on := 0, ground := Ground.phase }, { on := 1, ground := Ground.phase }, { on := 2, ground := Ground.phase }, { on := 3, ground := Ground.phase }, { on := 4, ground := Ground.phase }, { on := 5, ground := Ground.phase }, { on := 6, ground := Ground.phase }, { on := 7, ground := Ground.phase }, { on := 8, ground := Ground.phase }, { on := 9, ground := Ground.phase }], guard := none }) rfl (fun K hK => ?_) AllReady.nil
      rw [if_pos (by rfl)]
      refine wp_store_row 23 (.tmp 5) (.tmp 27) rfl w.heap.size (B8 R).toArray rfl rfl 23 _ K5 (size23' _ HRl.out) (by rw [List.size_toArray, List.size_toArray, B8_len, B8_len, HRl.out, HDl.out]) (one8 _) ?_
      have X : Keep w (adv i c F v (j + 1)) (w5.setRow w.heap.size (B8 R).toArray) := by rw [← HRA.out]; exact k5.row R
      refine hK _ _ ?_
      clear hK K
      refine wpAny_done (by kernel_rfl) ?_ _
      try dsimp only [Act.put]
      try simp only [List.setIfInBounds_toArray, List.set_cons_zero, List.set_cons_succ]
      go_wp2_with fail
      go_roundw
      case rel => exact ⟨j + 1, by omega, by rw [Int.natCast_add, Int.natCast_one, Int.add_assoc], X⟩
      case measure => simp only [intOf]; omega
  · obtain rfl : j = k := by omega
    rw [← HRR.out] at hkp
    have HLD := Lib.hid hkp.d.at
    have HZR := Lib.hid (show wr.heap[w.heap.size + 1]? = some (.cells Z16.toArray 23 (0, 0)) from hkp.z)
    have hlt2 : ¬ F + (j : Int) < T := by omega
    go_wp2_with (first
      | (with_reducible refine wpList_load_at rfl 23 (.tmp 5) rfl ⟨w.heap.size, 0, none⟩ rfl (B8 RF) (.array 16 5) HLD.out Tryd.underlying23 rfl (size23 _ HRl0.out) ?_)
      | (with_reducible refine wpList_store_row rfl 23 (.tmp 10) (.tmp 28) rfl (w.heap.size + 1) (B8 RF).toArray rfl rfl 23 _ HZR.out (size23' _ HRl0.out) (Z16_size _ HRl0.out) (one8 _) ?_))
    refine bodyPost_ret (v := .agg (B8 RF).toArray) ?_ rfl ⟨rfl, belowRow hkp.b (by omega) _⟩
    have hr := run_loadVar_row (P := Tryd.prog) _ (w.heap.size + 1) 23 23 (B8 RF).toArray (0, 0) (.array 16 5) (heap_setRow wr (w.heap.size + 1) (B8 RF).toArray _ 23 HZR.out) Tryd.underlying23 rfl (size23' _ HRl0.out)
    simp [results, Tryd.results29, asAddr, hr]
end Go.Proofs.YtgonidjajmjniaaDoor

