/-
  The contracts of the laws' At and Leaves.
  Conditions: the integers are of 64 bits; at most 2^40 of them.
-/
import Derived.Test.YtofccgkgjcnfbaaDoorOwns
namespace Go.Proofs.YtofccgkgjcnfbaaDoor
open Go.RowKit Wr Sh
set_option linter.unusedVariables false
set_option maxRecDepth 100000

/-- The cells of integers. -/
def I64 (l : List Int) : List Value := l.map (Value.int .i64)
theorem I64_get (l : List Int) (j : Nat) (h : j < l.length) : (I64 l)[j]? = some (.int .i64 l[j]) := by simp [I64, h]
def atI (l : List Int) (i : Nat) (m : Int) : Int := match l[i]? with | some v => ar v m | none => 0
theorem atI_in (l : List Int) (i : Nat) (m : Int) (h : i < l.length) : atI l i m = ar l[i] m := by
  unfold atI; rw [List.getElem?_eq_getElem h]
theorem atI_out (l : List Int) (i : Nat) (m : Int) (h : l.length ≤ i) : atI l i m = 0 := by
  unfold atI; rw [List.getElem?_eq_none h]
theorem atI_bounds (l : List Int) (i : Nat) (m : Int) (hm : 0 < m) : 0 ≤ atI l i m ∧ atI l i m < m := by
  unfold atI; split
  · exact ar_bounds _ _ hm
  · exact ⟨Int.le_refl _, hm⟩
set_option maxHeartbeats 2000000 in
theorem at_any (A : Option Addr) (l : List Int) (c : Nat) (I : Int) (i : Nat) (m : Int) (w : World) (hI : I = (i : Int)) (hi : i ≤ 281474976710656) (hl : l.length ≤ 281474976710656) (hr : Rd w w.heap.size A (I64 l)) (ho : ∀ x ∈ l, okInt x) (hm : 0 < m) (hm2 : m < 1000) :
    Calls Tryd.prog 48 #[.slice A l.length c, .int .i64 I, .int .i64 m] w fun e w' => e = .returned (.int .i64 (atI l i m)) ∧ w' = w := by
  subst hI
  by_cases hlt : i < l.length
  · rw [atI_in l i m hlt]
    obtain ⟨g, o, rfl, hg, hcell⟩ := hr (by intro e; have := congrArg List.length e; simp only [I64, List.length_map, List.length_nil] at this; omega)
    have hc := hcell i _ (I64_get l i hlt)
    have hx := ho l[i] (List.getElem_mem _)
    have HA := Lib.hid (around_any l[i] m hx.1 (by have := hx.2; omega) hm (by omega) w)
    obtain ⟨N, hN⟩ : ∃ N, N = l.length := ⟨_, rfl⟩
    have hz : (i : Int) < (N : Int) := by omega
    have hz1 : ¬ ((N : Int) ≤ (i : Int)) := by omega
    rw [← hN] at hl ⊢
    clear hcell hr ho hx
    go_enter Tryd.func48, Tryd.ntmps48
    go_wp2_with (go_at_call 17; refine HA.out.mono ?_; rintro e w1 ⟨rfl, rfl⟩)
    go_ret
    exact ⟨rfl, rfl⟩
  · rw [atI_out l i m (by omega)]
    obtain ⟨N, hN⟩ : ∃ N, N = l.length := ⟨_, rfl⟩
    have hz : (N : Int) ≤ (i : Int) := by omega
    rw [← hN] at hl ⊢
    clear hr ho
    go_enter Tryd.func48, Tryd.ntmps48
    go_wp2
    go_ret
    exact ⟨rfl, rfl⟩
/-- The number of a key, one more. -/
def gk (l : List Int) : Nat → Nat
  | 0 => 0
  | i + 1 => gk l i + 1 + (atI l (2 * i) 3).toNat
def vals : List ByteArray := [⟨#[]⟩, ⟨#[49]⟩, ⟨#[50]⟩, ⟨#[97, 32, 98]⟩, ⟨#[49, 50]⟩]
def glf (l : List Int) (i : Nat) : Lf := (bs (KB (gk l i + (atI l (2 * i) 3).toNat)), vals.getD (atI l (2 * i + 1) 5).toNat ByteArray.empty)
def gls (l : List Int) (n : Nat) : List Lf := (List.range n).map (glf l)
def gcnt (l : List Int) : Nat := min 11 ((l.length + 1) / 2)
def genL (l : List Int) : List Lf := gls l (gcnt l)
theorem gls_succ (l : List Int) (n : Nat) : gls l (n + 1) = gls l n ++ [glf l n] := by unfold gls; rw [List.range_succ, List.map_append]; rfl
theorem gls_len (l : List Int) (n : Nat) : (gls l n).length = n := by simp [gls]
theorem gk_le (l : List Int) (n : Nat) : gk l n ≤ 3 * n := by
  induction n with
  | zero => exact Nat.le_refl _
  | succ n ih => have := atI_bounds l (2 * n) 3 (by decide); rw [gk]; omega
theorem vals_cell (W : World) (q : Nat) (h : q < 5) :
    (W.alloc (.cells #[.string ⟨#[]⟩, .string ⟨#[49]⟩, .string ⟨#[50]⟩, .string ⟨#[97, 32, 98]⟩, .string ⟨#[49, 50]⟩] 9)).cell? ⟨W.heap.size, q, none⟩ = some (.string (vals.getD q ByteArray.empty)) := by
  have hb := (Blk.new W 9 (vals.map Value.string)).cell q
  refine Eq.trans hb ?_
  match q, h with
  | 0, _ => rfl
  | 1, _ => rfl
  | 2, _ => rfl
  | 3, _ => rfl
  | 4, _ => rfl
set_option maxHeartbeats 4000000 in
theorem leaves_any (A : Option Addr) (l : List Int) (c : Nat) (w : World) (hl : l.length ≤ 281474976710656) (hr : Rd w w.heap.size A (I64 l)) (ho : ∀ x ∈ l, okInt x) :
    Calls Tryd.prog 10 #[.slice A l.length c] w fun e w' => ∃ A' c', e = .returned (.slice A' (genL l).length c') ∧ (genL l).length ≤ c' ∧ (A' = none → c' = 0) ∧ Rd w' w'.heap.size A' (LC (genL l)) ∧ Below w.heap.size w w' := by
  obtain ⟨M, hM⟩ : ∃ M, M = gcnt l := ⟨_, rfl⟩
  have hgl : (genL l).length = M := by unfold genL; rw [gls_len, hM]
  have HGL := Lib.hid (show genL l = gls l M by rw [hM]; rfl)
  rw [hgl]
  have hM2 : M = min 11 ((l.length + 1) / 2) := hM
  obtain ⟨N, hN⟩ : ∃ N, N = l.length := ⟨_, rfl⟩
  have HAT := Lib.hid (fun (W : World) (I : Int) (i : Nat) (m : Int) (hb : Below w.heap.size w W) (hI : I = (i : Int)) (hi : i ≤ 281474976710656) (hm : 0 < m) (hm2 : m < 1000) => at_any A l c I i m W hI hi hl ((hr.below hb).more hb.size) ho hm hm2)
  rw [← hN] at hl hM2 HAT ⊢
  clear hgl hM hN hr ho
  go_enter Tryd.func10, Tryd.ntmps10
  go_wp2
  go_loopw [3, 4, 5] (fun s3 s4 s5 wr => ∃ j K : Nat, j ≤ M ∧ s5 = .int .i64 j ∧ s4 = .int .i64 ((K : Int) - 1) ∧ Hid (K = gk l j) ∧ wr.ownsRow w.heap.size 87 2 s3 j (LC (gls l j)) ∧ Below w.heap.size w wr)
    (fun _ _ s5 _ => M - (intOf s5).toNat)
  case atStart => exact ⟨0, 0, Nat.zero_le _, rfl, rfl, Lib.hid rfl, World.ownsRow_nil _ _ _ _, Below.refl _ _⟩
  case round =>
    obtain ⟨j, K, hj, rfl, rfl, hK, ho, hb⟩ := hrel
    by_cases hlt : j < M
    · have hK2 := gk_le l j
      have hb1 := atI_bounds l (2 * j) 3 (by decide)
      have hb2 := atI_bounds l (2 * j + 1) 5 (by decide)
      obtain ⟨p, hp⟩ : ∃ p : Nat, p = (atI l (2 * j) 3).toNat := ⟨_, rfl⟩
      obtain ⟨q, hq⟩ : ∃ q : Nat, q = (atI l (2 * j + 1) 5).toNat := ⟨_, rfl⟩
      have e1 : atI l (2 * j) 3 = (p : Int) := by omega
      have e2 : atI l (2 * j + 1) 5 = (q : Int) := by omega
      have hp3 : p < 3 := by omega
      have hq5 : q < 5 := by omega
      have hKb : K ≤ 30 := by rw [hK.out]; omega
      have HK2 := Lib.hid (show K + 1 + p = gk l (j + 1) by rw [gk, hp, hK.out])
      obtain ⟨V, hV⟩ : ∃ V, V = vals.getD q ByteArray.empty := ⟨_, rfl⟩
      obtain ⟨S, hS⟩ : ∃ S, S = bs (KB (K + p)) := ⟨_, rfl⟩
      have HG := Lib.hid (show gls l (j + 1) = gls l j ++ [(S, V)] by rw [gls_succ, hS, hV, hp, hq, hK.out]; rfl)
      have hA1 := HAT.out wr (2 * (j : Int)) (2 * j) 3 hb (by omega) (by omega) (by decide) (by decide)
      have hky := key_any (K + p) (by omega) wr
      rw [Int.natCast_add] at hky
      have hA2 : ∀ W, Below w.heap.size w W → _ := fun W hbW => HAT.out W (2 * (j : Int) + 1) (2 * j + 1) 5 hbW (by omega) (by omega) (by decide) (by decide)
      rw [e1] at hA1
      rw [e2] at hA2
      rw [← hS] at hky
      have HKY := Lib.hid hky
      have HA1 := Lib.hid hA1
      have HA2 := Lib.hid hA2
      have HVC := Lib.hid (fun W : World => vals_cell W q hq5)
      rw [← hV] at HVC
      have j1 : 2 * (j : Int) < (N : Int) := by omega
      have j2 : (j : Int) < 11 := by omega
      have HO := Lib.hid ho
      have HB := Lib.hid hb
      clear hA1 hA2 hky hS hV e1 e2 hp hq hK2 hb1 hb2 ho hb
      go_wp2_with (go_at_call 48; refine HA1.out.mono ?_; rintro e w1 ⟨rfl, rfl⟩)
      refine HKY.out.mono ?_; rintro e w2 ⟨rfl, hb2⟩
      have B2 := Lib.hid (HB.out.trans (hb2.mono HB.out.size))
      have O2 := Lib.hid (own_below HO.out hb2)
      have hvc := HVC.out w2
      have B3 := Lib.hid (fun O : Obj => B2.out.trans ((Below.refl w2.heap.size w2).alloc (Nat.le_refl _) O |>.mono B2.out.size))
      have HA3 := Lib.hid (HA2.out _ (B3.out (.cells #[.string ⟨#[]⟩, .string ⟨#[49]⟩, .string ⟨#[50]⟩, .string ⟨#[97, 32, 98]⟩, .string ⟨#[49, 50]⟩] 9)))
      clear hb2
      have O3 := Lib.hid ((O2.out.alloc (.cells #[.string ⟨#[]⟩, .string ⟨#[49]⟩, .string ⟨#[50]⟩, .string ⟨#[97, 32, 98]⟩, .string ⟨#[49, 50]⟩] 9)).alloc (.cells #[.string S, .string V] 87))
      have R3 := Lib.hid (rd_new (w2.alloc (.cells #[.string ⟨#[]⟩, .string ⟨#[49]⟩, .string ⟨#[50]⟩, .string ⟨#[97, 32, 98]⟩, .string ⟨#[49, 50]⟩] 9)) (LC [(S, V)]) 87)
      have B4 := Lib.hid (show Below w.heap.size w ((w2.alloc (.cells #[.string ⟨#[]⟩, .string ⟨#[49]⟩, .string ⟨#[50]⟩, .string ⟨#[97, 32, 98]⟩, .string ⟨#[49, 50]⟩] 9)).alloc (.cells #[.string S, .string V] 87)) from (B3.out _).alloc (B3.out (.cells #[.string ⟨#[]⟩, .string ⟨#[49]⟩, .string ⟨#[50]⟩, .string ⟨#[97, 32, 98]⟩, .string ⟨#[49, 50]⟩] 9)).size _)
      have hs4 : (w2.alloc (.cells #[.string ⟨#[]⟩, .string ⟨#[49]⟩, .string ⟨#[50]⟩, .string ⟨#[97, 32, 98]⟩, .string ⟨#[49, 50]⟩] 9)).heap.size = w2.heap.size + 1 := by simp
      rw [hs4] at R3
      have j3 : j + 1 ≤ 4294967296 := by omega
      go_wp2_with (first
        | (go_at_call 48; refine HA3.out.mono ?_; rintro e w1 ⟨rfl, rfl⟩)
        | (refine wpList_append_leaves (T := 24) (e := 87) (by kernel_rfl) info87 rfl (.tmp 24) (.tmp 36) rfl w.heap.size u3 j (LC (gls l j)) rfl O3.out (some ⟨w2.heap.size + 1, 0, none⟩) 1 1 _ [(S, V)] rfl (fun e => by cases e) rfl R3.out j3 B4.out.size ?_; intro v5 w5 O5 G5; have B5 := Lib.hid (below_app B4.out O3.out G5); replace O5 := Lib.hid O5; clear G5))
      go_roundw
      case rel => exact ⟨j + 1, K + 1 + p, by omega, by go_num, by go_num, HK2, by rw [HG.out, LC_append]; exact O5.out, B5.out⟩
      case measure => simp only [intOf]; omega
    · have hstop : ¬ (2 * (j : Int) < (N : Int) ∧ (j : Int) < 11) := by omega
      have j7 : j ≤ 11 := by omega
      clear hM2
      obtain rfl : j = M := by omega
      by_cases j1 : 2 * (j : Int) < (N : Int)
      · have j2 : (11 : Int) ≤ (j : Int) := by omega
        have j4 : (decide ((j : Int) < 11)) = false := by rw [decide_eq_false_iff_not]; omega
        go_wp2
        go_ret
        obtain ⟨A', c', rfl, h1, h2, h3⟩ := own_form ho
        exact ⟨A', c', rfl, h1, h2, by rw [HGL.out]; exact h3, hb⟩
      · have j5 : (decide (2 * (j : Int) < (N : Int))) = false := by rw [decide_eq_false_iff_not]; omega
        have j6 : (N : Int) ≤ 2 * (j : Int) := by omega
        clear j1
        go_wp2
        go_ret
        obtain ⟨A', c', rfl, h1, h2, h3⟩ := own_form ho
        exact ⟨A', c', rfl, h1, h2, by rw [HGL.out]; exact h3, hb⟩
end Go.Proofs.YtofccgkgjcnfbaaDoor
