/-
  The laws' helpers: Around, Key, own, plain, At, Leaves, Has, Inside, key, SameLeaves; facts on what they make.
  Conditions: lengths.
-/
import Derived.Test.YtofccgkgjcnfbaaDoorZ
import Derived.Test.YtofccgkgjcnfbaaDoorLives
set_option linter.unusedSimpArgs false
namespace Go.Proofs.YtofccgkgjcnfbaaDoor
open Go.RowKit Wr Sh
set_option linter.unusedVariables false
set_option maxRecDepth 100000
def ar (v m : Int) : Int := (if v < 0 then -(v + 1) else v).tmod m
theorem ar_bounds (v m : Int) (hm : 0 < m) : 0 ≤ ar v m ∧ ar v m < m := by
 unfold ar
 split
 ·
  exact ⟨Int.tmod_nonneg _ (by omega), Int.tmod_lt_of_pos _ hm⟩
 ·
  exact ⟨Int.tmod_nonneg _ (by omega), Int.tmod_lt_of_pos _ hm⟩
set_option maxHeartbeats 2000000 in
theorem around_any (v m : Int) (h1 : -9223372036854775808 ≤ v) (h2 : v < 9223372036854775808) (hm : 0 < m) (hm2 : m < 9223372036854775808) (w : World) :
  Calls Tryd.prog 17 #[.int .i64 v, .int .i64 m] w fun e w' => e = .returned (.int .i64 (ar v m)) ∧ w' = w := by
 have hb := ar_bounds v m hm
 unfold ar at hb ⊢
 by_cases hv : v < 0
 ·
  rw [if_pos hv] at hb ⊢
  have hm0 : m ≠ 0 := by omega
  go_enter Tryd.func17, Tryd.ntmps17
  go_wp2
  go_ret
  exact ⟨by show Ending.returned (.int .i64 (-(v + 1).tmod m)) = _; rw [Int.neg_tmod], rfl⟩
 ·
  rw [if_neg hv] at hb ⊢
  have hm0 : m ≠ 0 := by omega
  go_enter Tryd.func17, Tryd.ntmps17
  go_wp2
  go_ret
  exact ⟨by show Ending.returned (.int .i64 (v % m)) = _; rw [Int.tmod_eq_emod_of_nonneg (by omega)], rfl⟩
def KB (n : Nat) : List UInt8 := if n % 3 = 0 then [UInt8.ofNat (97 + n / 3)] else [UInt8.ofNat (97 + n / 3), UInt8.ofNat (97 + n % 3)]
theorem u8_lit (n : Nat) (h : n < 256) : ((UInt8.ofNat n).toNat : Int) = (n : Int) := by
 rw [UInt8.toNat_ofNat']; omega
theorem conv_new (T : List UInt8) (N : Nat) (hN : N = T.length) (w : World) (a : Array Value) (ha : a = (B8 T).toArray) :
  (convert 39 9 (.slice (some ⟨w.heap.size, 0, none⟩) N N)).run Tryd.prog (w.alloc (.cells a 5)) = .ok (.string (bs T)) (w.alloc (.cells a 5)) := by
 subst ha hN
 exact conv_at w.heap.size 0 T.length T _ (fun j u hu => by rw [Nat.zero_add, (Blk.new w 5 (B8 T)).cell]; exact hu)
set_option maxHeartbeats 2000000 in
theorem key_any (n : Nat) (hn : n < 400) (w : World) :
  Calls Tryd.prog 49 #[.int .i64 (n : Int)] w fun e w' => e = .returned (.string (bs (KB n))) ∧ Below w.heap.size w w' := by
 unfold KB
 have e1 := u8_lit (97 + n / 3) (by omega)
 have e2 := u8_lit (97 + n % 3) (by omega)
 by_cases hv : n % 3 = 0
 ·
  rw [if_pos hv]
  have hc := conv_new [UInt8.ofNat (97 + n / 3)] 1 rfl w #[.int .u8 (97 + (n : Int) / 3)] (by
   show #[Value.int .u8 (97 + (n : Int) / 3)] = #[.int .u8 ((UInt8.ofNat (97 + n / 3)).toNat : Int)]
   rw [e1]; simp)
  obtain ⟨K, hK⟩ : ∃ K, K = bs [UInt8.ofNat (97 + n / 3)] := ⟨_, rfl⟩
  rw [← hK] at hc ⊢
  clear hK
  go_enter Tryd.func49, Tryd.ntmps49
  go_wp2
  go_ret
  exact ⟨rfl, (Below.refl _ _).alloc (Nat.le_refl _) _⟩
 ·
  rw [if_neg hv]
  have hc := conv_new [UInt8.ofNat (97 + n / 3), UInt8.ofNat (97 + n % 3)] 2 rfl w #[.int .u8 (97 + (n : Int) / 3), .int .u8 (97 + (n : Int) % 3)] (by
   show #[Value.int .u8 (97 + (n : Int) / 3), .int .u8 (97 + (n : Int) % 3)] = #[.int .u8 ((UInt8.ofNat (97 + n / 3)).toNat : Int), .int .u8 ((UInt8.ofNat (97 + n % 3)).toNat : Int)]
   rw [e1, e2]; simp)
  obtain ⟨K, hK⟩ : ∃ K, K = bs [UInt8.ofNat (97 + n / 3), UInt8.ofNat (97 + n % 3)] := ⟨_, rfl⟩
  rw [← hK] at hc ⊢
  clear hK
  go_enter Tryd.func49, Tryd.ntmps49
  go_wp2
  go_ret
  exact ⟨rfl, (Below.refl _ _).alloc (Nat.le_refl _) _⟩
end Go.Proofs.YtofccgkgjcnfbaaDoor
namespace Go.Proofs.YtofccgkgjcnfbaaDoor
open Go.RowKit Wr Sh
set_option linter.unusedVariables false
set_option maxRecDepth 100000
def LfAt (g o j : Nat) (k v : ByteArray) (W : World) : Prop := W.cell? ⟨g, o + j * 2, none⟩ = some (.string k) ∧ W.cell? ⟨g, o + j * 2 + 1, none⟩ = some (.string v)
theorem LfAt.below {g o j : Nat} {k v : ByteArray} {w w' : World} (h : LfAt g o j k v w) (hb : Below w.heap.size w w') : LfAt g o j k v w' :=
 ⟨(hb.cell (World.block_lt_of_cell? _ _ h.1)).trans h.1, (hb.cell (World.block_lt_of_cell? _ _ h.2)).trans h.2⟩
theorem below_app {w W W' : World} {e size n : Nat} {v : Value} {xs : List Value} (hb : Below w.heap.size w W) (ho : W.ownsRow w.heap.size e size v n xs) (hg : W.grownBy W' v.ownBlock) : Below w.heap.size w W' :=
 hb.trans ⟨hg.os, hg.tape, hg.output, hg.size, fun k hk => hg.block k (Nat.lt_of_lt_of_le hk hb.size) (fun e => absurd (ho.lt k e.symm).1 (by omega))⟩
end Go.Proofs.YtofccgkgjcnfbaaDoor
namespace Go.Proofs.YtofccgkgjcnfbaaDoor
open Go.RowKit Wr Sh
set_option linter.unusedVariables false
set_option maxRecDepth 100000
def I64 (l : List Int) : List Value := l.map (Value.int .i64)
theorem I64_get (l : List Int) (j : Nat) (h : j < l.length) : (I64 l)[j]? = some (.int .i64 l[j]) := by simp [I64, h]
def atI (l : List Int) (i : Nat) (m : Int) : Int := match l[i]? with | some v => ar v m | none => 0
theorem atI_in (l : List Int) (i : Nat) (m : Int) (h : i < l.length) : atI l i m = ar l[i] m := by
 unfold atI; rw [List.getElem?_eq_getElem h]
theorem atI_out (l : List Int) (i : Nat) (m : Int) (h : l.length ≤ i) : atI l i m = 0 := by
 unfold atI; rw [List.getElem?_eq_none h]
theorem atI_bounds (l : List Int) (i : Nat) (m : Int) (hm : 0 < m) : 0 ≤ atI l i m ∧ atI l i m < m := by
 unfold atI; split
 ·
  exact ar_bounds _ _ hm
 ·
  exact ⟨Int.le_refl _, hm⟩
set_option maxHeartbeats 2000000 in
theorem at_any (A : Option Addr) (l : List Int) (c : Nat) (I : Int) (i : Nat) (m : Int) (w : World) (hI : I = (i : Int)) (hi : i ≤ 281474976710656) (hl : l.length ≤ 281474976710656) (hr : Rd w w.heap.size A (I64 l)) (ho : ∀ x ∈ l, okInt x) (hm : 0 < m) (hm2 : m < 1000) :
  Calls Tryd.prog 48 #[.slice A l.length c, .int .i64 I, .int .i64 m] w fun e w' => e = .returned (.int .i64 (atI l i m)) ∧ w' = w := by
 subst hI
 by_cases hlt : i < l.length
 ·
  rw [atI_in l i m hlt]
  obtain ⟨g, o, rfl, hg, hcell⟩ := hr (by intro e; have := congrArg List.length e; simp only [I64, List.length_map, List.length_nil] at this; omega)
  have hc := hcell i _ (I64_get l i hlt)
  have hx := ho l[i] (List.getElem_mem _)
  have HA := Lh (around_any l[i] m hx.1 (by have := hx.2; omega) hm (by omega) w)
  obtain ⟨N, hN⟩ : ∃ N, N = l.length := ⟨_, rfl⟩
  have hz : (i : Int) < (N : Int) := by omega
  have hz1 : ¬ ((N : Int) ≤ (i : Int)) := by omega
  rw [← hN] at hl ⊢
  clear hcell hr ho hx
  go_enter Tryd.func48, Tryd.ntmps48
  go_wp2_with (go_at_call 17; refine HA.out.mono ?_; rintro e w1 ⟨rfl, rfl⟩)
  go_ret
  exact ⟨rfl, rfl⟩
 ·
  rw [atI_out l i m (by omega)]
  obtain ⟨N, hN⟩ : ∃ N, N = l.length := ⟨_, rfl⟩
  have hz : (N : Int) ≤ (i : Int) := by omega
  rw [← hN] at hl ⊢
  clear hr ho
  go_enter Tryd.func48, Tryd.ntmps48
  go_wp2
  go_ret
  exact ⟨rfl, rfl⟩
def gk (l : List Int) : Nat → Nat
 | 0 => 0
 | i + 1 => gk l i + 1 + (atI l (2 * i) 3).toNat
def vals : List ByteArray := [⟨#[]⟩, ⟨#[49]⟩, ⟨#[50]⟩, ⟨#[97, 32, 98]⟩, ⟨#[49, 50]⟩]
def glf (l : List Int) (i : Nat) : Lf := (bs (KB (gk l i + (atI l (2 * i) 3).toNat)), vals.getD (atI l (2 * i + 1) 5).toNat ByteArray.empty)
def gls (l : List Int) (n : Nat) : List Lf := (List.range n).map (glf l)
def gcnt (l : List Int) : Nat := min 11 ((l.length + 1) / 2)
def genL (l : List Int) : List Lf := gls l (gcnt l)
theorem gls_succ (l : List Int) (n : Nat) : gls l (n + 1) = gls l n ++ [glf l n] := by unfold gls; rw [List.range_succ, List.map_append]; rfl
theorem gls_len (l : List Int) (n : Nat) : (gls l n).length = n := by simp [gls]
theorem gk_le (l : List Int) (n : Nat) : gk l n ≤ 3 * n := by
 induction n with
 | zero => exact Nat.le_refl _
 | succ n ih => have := atI_bounds l (2 * n) 3 (by decide); rw [gk]; omega
theorem vals_cell (W : World) (q : Nat) (h : q < 5) :
  (W.alloc (.cells #[.string ⟨#[]⟩, .string ⟨#[49]⟩, .string ⟨#[50]⟩, .string ⟨#[97, 32, 98]⟩, .string ⟨#[49, 50]⟩] 9)).cell? ⟨W.heap.size, q, none⟩ = some (.string (vals.getD q ByteArray.empty)) := by
 have hb := (Blk.new W 9 (vals.map Value.string)).cell q
 refine Eq.trans hb ?_
 match q, h with
 | 0, _ => rfl
 | 1, _ => rfl
 | 2, _ => rfl
 | 3, _ => rfl
 | 4, _ => rfl
set_option maxHeartbeats 4000000 in
theorem leaves_any (A : Option Addr) (l : List Int) (c : Nat) (w : World) (hl : l.length ≤ 281474976710656) (hr : Rd w w.heap.size A (I64 l)) (ho : ∀ x ∈ l, okInt x) :
  Calls Tryd.prog 10 #[.slice A l.length c] w fun e w' => ∃ A' c', e = .returned (.slice A' (genL l).length c') ∧ (genL l).length ≤ c' ∧ (A' = none → c' = 0) ∧ Rd w' w'.heap.size A' (LC (genL l)) ∧ Below w.heap.size w w' := by
 obtain ⟨M, hM⟩ : ∃ M, M = gcnt l := ⟨_, rfl⟩
 have hgl : (genL l).length = M := by unfold genL; rw [gls_len, hM]
 have HGL := Lh (show genL l = gls l M by rw [hM]; rfl)
 rw [hgl]
 have hM2 : M = min 11 ((l.length + 1) / 2) := hM
 obtain ⟨N, hN⟩ : ∃ N, N = l.length := ⟨_, rfl⟩
 have HAT := Lh (fun (W : World) (I : Int) (i : Nat) (m : Int) (hb : Below w.heap.size w W) (hI : I = (i : Int)) (hi : i ≤ 281474976710656) (hm : 0 < m) (hm2 : m < 1000) => at_any A l c I i m W hI hi hl ((hr.below hb).more hb.size) ho hm hm2)
 rw [← hN] at hl hM2 HAT ⊢
 clear hgl hM hN hr ho
 go_enter Tryd.func10, Tryd.ntmps10
 go_wp2
 go_loopw [3, 4, 5] (fun s3 s4 s5 wr => ∃ j K : Nat, j ≤ M ∧ s5 = .int .i64 j ∧ s4 = .int .i64 ((K : Int) - 1) ∧ Hid (K = gk l j) ∧ wr.ownsRow w.heap.size 87 2 s3 j (LC (gls l j)) ∧ Below w.heap.size w wr)
  (fun _ _ s5 _ => M - (intOf s5).toNat)
 case atStart => exact ⟨0, 0, Nat.zero_le _, rfl, rfl, Lh rfl, World.ownsRow_nil _ _ _ _, Below.refl _ _⟩
 case round =>
  obtain ⟨j, K, hj, rfl, rfl, hK, ho, hb⟩ := hrel
  by_cases hlt : j < M
  ·
   have hK2 := gk_le l j
   have hb1 := atI_bounds l (2 * j) 3 (by decide)
   have hb2 := atI_bounds l (2 * j + 1) 5 (by decide)
   obtain ⟨p, hp⟩ : ∃ p : Nat, p = (atI l (2 * j) 3).toNat := ⟨_, rfl⟩
   obtain ⟨q, hq⟩ : ∃ q : Nat, q = (atI l (2 * j + 1) 5).toNat := ⟨_, rfl⟩
   have e1 : atI l (2 * j) 3 = (p : Int) := by omega
   have e2 : atI l (2 * j + 1) 5 = (q : Int) := by omega
   have hp3 : p < 3 := by omega
   have hq5 : q < 5 := by omega
   have hKb : K ≤ 30 := by rw [hK.out]; omega
   have HK2 := Lh (show K + 1 + p = gk l (j + 1) by rw [gk, hp, hK.out])
   obtain ⟨V, hV⟩ : ∃ V, V = vals.getD q ByteArray.empty := ⟨_, rfl⟩
   obtain ⟨S, hS⟩ : ∃ S, S = bs (KB (K + p)) := ⟨_, rfl⟩
   have HG := Lh (show gls l (j + 1) = gls l j ++ [(S, V)] by rw [gls_succ, hS, hV, hp, hq, hK.out]; rfl)
   have hA1 := HAT.out wr (2 * (j : Int)) (2 * j) 3 hb (by omega) (by omega) (by decide) (by decide)
   have hky := key_any (K + p) (by omega) wr
   rw [Int.natCast_add] at hky
   have hA2 : ∀ W, Below w.heap.size w W → _ := fun W hbW => HAT.out W (2 * (j : Int) + 1) (2 * j + 1) 5 hbW (by omega) (by omega) (by decide) (by decide)
   rw [e1] at hA1
   rw [e2] at hA2
   rw [← hS] at hky
   have HKY := Lh hky
   have HA1 := Lh hA1
   have HA2 := Lh hA2
   have HVC := Lh (fun W : World => vals_cell W q hq5)
   rw [← hV] at HVC
   have j1 : 2 * (j : Int) < (N : Int) := by omega
   have j2 : (j : Int) < 11 := by omega
   have HO := Lh ho
   have HB := Lh hb
   clear hA1 hA2 hky hS hV e1 e2 hp hq hK2 hb1 hb2 ho hb
   go_wp2_with (go_at_call 48; refine HA1.out.mono ?_; rintro e w1 ⟨rfl, rfl⟩)
   refine HKY.out.mono ?_; rintro e w2 ⟨rfl, hb2⟩
   have B2 := Lh (HB.out.trans (hb2.mono HB.out.size))
   have O2 := Lh (own_below HO.out hb2)
   have hvc := HVC.out w2
   have B3 := Lh (fun O : Obj => B2.out.trans ((Below.refl w2.heap.size w2).alloc (Nat.le_refl _) O |>.mono B2.out.size))
   have HA3 := Lh (HA2.out _ (B3.out (.cells #[.string ⟨#[]⟩, .string ⟨#[49]⟩, .string ⟨#[50]⟩, .string ⟨#[97, 32, 98]⟩, .string ⟨#[49, 50]⟩] 9)))
   clear hb2
   have O3 := Lh ((O2.out.alloc (.cells #[.string ⟨#[]⟩, .string ⟨#[49]⟩, .string ⟨#[50]⟩, .string ⟨#[97, 32, 98]⟩, .string ⟨#[49, 50]⟩] 9)).alloc (.cells #[.string S, .string V] 87))
   have R3 := Lh (rd_new (w2.alloc (.cells #[.string ⟨#[]⟩, .string ⟨#[49]⟩, .string ⟨#[50]⟩, .string ⟨#[97, 32, 98]⟩, .string ⟨#[49, 50]⟩] 9)) (LC [(S, V)]) 87)
   have B4 := Lh (show Below w.heap.size w ((w2.alloc (.cells #[.string ⟨#[]⟩, .string ⟨#[49]⟩, .string ⟨#[50]⟩, .string ⟨#[97, 32, 98]⟩, .string ⟨#[49, 50]⟩] 9)).alloc (.cells #[.string S, .string V] 87)) from (B3.out _).alloc (B3.out (.cells #[.string ⟨#[]⟩, .string ⟨#[49]⟩, .string ⟨#[50]⟩, .string ⟨#[97, 32, 98]⟩, .string ⟨#[49, 50]⟩] 9)).size _)
   have hs4 : (w2.alloc (.cells #[.string ⟨#[]⟩, .string ⟨#[49]⟩, .string ⟨#[50]⟩, .string ⟨#[97, 32, 98]⟩, .string ⟨#[49, 50]⟩] 9)).heap.size = w2.heap.size + 1 := by simp
   rw [hs4] at R3
   have j3 : j + 1 ≤ 4294967296 := by omega
   go_wp2_with (first
    | (go_at_call 48; refine HA3.out.mono ?_; rintro e w1 ⟨rfl, rfl⟩)
    | (refine wpList_append_leaves (T := 24) (e := 87) (by kernel_rfl) info87 rfl (.tmp 24) (.tmp 36) rfl w.heap.size u3 j (LC (gls l j)) rfl O3.out (some ⟨w2.heap.size + 1, 0, none⟩) 1 1 _ [(S, V)] rfl (fun e => by cases e) rfl R3.out j3 B4.out.size ?_; intro v5 w5 O5 G5; have B5 := Lh (below_app B4.out O3.out G5); replace O5 := Lh O5; clear G5))
   go_roundw
   case rel => exact ⟨j + 1, K + 1 + p, by omega, by go_num, by go_num, HK2, by rw [HG.out, LC_append]; exact O5.out, B5.out⟩
   case measure => simp only [intOf]; omega
  ·
   have hstop : ¬ (2 * (j : Int) < (N : Int) ∧ (j : Int) < 11) := by omega
   have j7 : j ≤ 11 := by omega
   clear hM2
   obtain rfl : j = M := by omega
   by_cases j1 : 2 * (j : Int) < (N : Int)
   ·
    have j2 : (11 : Int) ≤ (j : Int) := by omega
    have j4 : (decide ((j : Int) < 11)) = false := by rw [decide_eq_false_iff_not]; omega
    go_wp2
    go_ret
    obtain ⟨A', c', rfl, h1, h2, h3⟩ := own_form ho
    exact ⟨A', c', rfl, h1, h2, by rw [HGL.out]; exact h3, hb⟩
   ·
    have j5 : (decide (2 * (j : Int) < (N : Int))) = false := by rw [decide_eq_false_iff_not]; omega
    have j6 : (N : Int) ≤ 2 * (j : Int) := by omega
    clear j1
    go_wp2
    go_ret
    obtain ⟨A', c', rfl, h1, h2, h3⟩ := own_form ho
    exact ⟨A', c', rfl, h1, h2, by rw [HGL.out]; exact h3, hb⟩
end Go.Proofs.YtofccgkgjcnfbaaDoor
namespace Go.Proofs.YtofccgkgjcnfbaaDoor
open Go.RowKit Wr Sh
set_option linter.unusedVariables false
set_option maxRecDepth 100000
def hasI (L : List Lf) (k : ByteArray) : Int := match L.findIdx? (fun x => decide (x.1 = k)) with | some i => (i : Int) | none => -1
def inB (a b : ByteArray) (x : Lf) : Bool := !sl x.1 a && sl x.1 b
def insideR (L : List Lf) (a b : ByteArray) : List Lf := L.filter (inB a b)
theorem findIdx_take {L : List Lf} {p : Lf → Bool} (j : Nat) (hj : j < L.length) (h : ∀ x ∈ L.take j, p x = false) (hp : p L[j] = true) : L.findIdx? p = some j := by
 rw [List.findIdx?_eq_some_iff_getElem]
 refine ⟨hj, hp, fun i hi => ?_⟩
 have := h L[i] (by
  rw [List.mem_iff_getElem]
  exact ⟨i, by rw [List.length_take]; omega, by rw [List.getElem_take]⟩)
 rw [this]; simp
theorem findIdx_all {L : List Lf} {p : Lf → Bool} (h : ∀ x ∈ L, p x = false) : L.findIdx? p = none := by
 rw [List.findIdx?_eq_none_iff]; exact h
set_option maxHeartbeats 4000000 in
theorem has_any (A : Option Addr) (L : List Lf) (c : Nat) (key : ByteArray) (w : World) (hl : L.length ≤ 1073741824) (hr : Rd w w.heap.size A (LC L)) :
  Calls Tryd.prog 43 #[.slice A L.length c, .string key] w fun e w' => e = .returned (.int .i64 (hasI L key)) ∧ w' = w := by
 obtain ⟨N, hN⟩ : ∃ N, N = L.length := ⟨_, rfl⟩
 rw [← hN] at hl ⊢
 have HN := Lh hN
 have HR := Lh hr
 clear hN hr
 go_enter Tryd.func43, Tryd.ntmps43
 go_wp2
 go_loopw [5] (fun s5 wr => ∃ j : Nat, j ≤ N ∧ s5 = .int .i64 j ∧ Hid (∀ x ∈ L.take j, decide (x.1 = key) = false) ∧ w = wr)
  (fun s5 _ => N - (intOf s5).toNat)
 case atStart => exact ⟨0, Nat.zero_le _, rfl, Lh (fun x hx => by simp at hx), rfl⟩
 case round =>
  obtain ⟨j, hj, rfl, hall, rfl⟩ := hrel
  by_cases hlt : j < N
  ·
   have hjl : j < L.length := by have := HN.out; omega
   obtain ⟨g, o, rfl, hg, hcell⟩ := HR.out (by intro e; have := congrArg List.length e; rw [LC_len] at this; simp only [List.length_nil] at this; omega)
   have hc1 := hcell _ _ (LC_at L j hjl).1
   obtain ⟨k, hk⟩ : ∃ k, k = L[j].1 := ⟨_, rfl⟩
   rw [← hk] at hc1
   have HK := Lh hk
   clear hcell hk
   by_cases he : k = key
   ·
    subst he
    have HF := Lh (show hasI L k = (j : Int) by unfold hasI; rw [findIdx_take j hjl hall.out (by rw [← HK.out]; simp)])
    clear HK hall
    go_wp2
    go_ret
    exact ⟨by rw [HF.out]; rfl, rfl⟩
   ·
    have he2 : (k.toList == key.toList) = false := by rw [beq_eq_false_iff_ne]; exact fun e => he (str_ext e)
    have HA := Lh (show ∀ x ∈ L.take (j + 1), decide (x.1 = key) = false from fun x hx => by
     rw [List.take_succ_eq_append_getElem hjl, List.mem_append] at hx
     rcases hx with h | h
     ·
      exact hall.out x h
     ·
      rw [List.mem_singleton] at h; subst h; rw [← HK.out]; exact decide_eq_false he)
    clear HK hall hjl
    go_wp2
    go_roundw
    case rel => exact ⟨j + 1, by omega, by go_num, HA, by first | rfl | trivial⟩
    case measure => simp only [intOf]; omega
  ·
   obtain rfl : j = N := by omega
   have HF := Lh (show hasI L key = -1 by unfold hasI; rw [findIdx_all (by have := hall.out; rw [HN.out, List.take_length] at this; exact this)])
   go_wp2
   go_ret
   exact ⟨by rw [HF.out]; rfl, rfl⟩
end Go.Proofs.YtofccgkgjcnfbaaDoor
namespace Go.Proofs.YtofccgkgjcnfbaaDoor
open Go.RowKit Wr Sh
set_option linter.unusedVariables false
set_option maxRecDepth 100000
theorem key_lt (m n : Nat) (h : m < n) (hn : n < 60) : sl (bs (KB m)) (bs (KB n)) = true := by
 have : ∀ n : Fin 60, ∀ m : Fin 60, m.val < n.val → sl (bs (KB m.val)) (bs (KB n.val)) = true := by decide +kernel
 exact this ⟨n, hn⟩ ⟨m, by omega⟩ h
theorem key_size (n : Nat) : (bs (KB n)).size ≤ 2 := by
 rw [bs_size]; unfold KB; split <;> simp
theorem gls_keys (l : List Int) (n : Nat) : ∀ x ∈ gls l n, ∃ i, i < gk l n ∧ x.1 = bs (KB i) := by
 induction n with
 | zero => intro x hx; simp [gls] at hx
 | succ n ih =>
  intro x hx
  rw [gls_succ, List.mem_append] at hx
  rcases hx with h | h
  ·
   obtain ⟨i, h1, h2⟩ := ih x h
   exact ⟨i, by rw [gk]; omega, h2⟩
  ·
   rw [List.mem_singleton] at h; subst h
   exact ⟨gk l n + (atI l (2 * n) 3).toNat, by rw [gk]; omega, rfl⟩
theorem gls_ord (l : List Int) (n : Nat) (hn : n ≤ 11) : ord (gls l n) := by
 induction n with
 | zero => exact List.Pairwise.nil
 | succ n ih =>
  rw [gls_succ]
  refine List.pairwise_append.2 ⟨ih (by omega), List.pairwise_singleton _ _, fun x hx y hy => ?_⟩
  rw [List.mem_singleton] at hy; subst hy
  obtain ⟨i, h1, h2⟩ := gls_keys l n x hx
  have := atI_bounds l (2 * n) 3 (by decide)
  have := gk_le l n
  show sl x.1 (bs (KB (gk l n + (atI l (2 * n) 3).toNat))) = true
  rw [h2]
  exact key_lt _ _ (by omega) (by omega)
theorem vals_size (q : Nat) : (vals.getD q ByteArray.empty).size ≤ 3 := by
 match q with
 | 0 => decide
 | 1 => decide
 | 2 => decide
 | 3 => decide
 | 4 => decide
 | q + 5 => simp [vals]
theorem gls_sizes (l : List Int) (n : Nat) : ∀ x ∈ gls l n, x.1.size ≤ 2 ∧ x.2.size ≤ 3 := by
 intro x hx
 unfold gls at hx
 rw [List.mem_map] at hx
 obtain ⟨i, _, rfl⟩ := hx
 exact ⟨key_size _, vals_size _⟩
theorem gcnt_le (l : List Int) : gcnt l ≤ 11 := by unfold gcnt; omega
theorem genL_len (l : List Int) : (genL l).length ≤ 11 := by unfold genL; rw [gls_len]; exact gcnt_le l
theorem genL_ord (l : List Int) : ord (genL l) := gls_ord l _ (gcnt_le l)
theorem genL_valid (l : List Int) : validE (genL l) = 0 := by
 refine valid_of (by have := genL_len l; omega) ?_ (genL_ord l)
 rw [List.any_eq_false]
 intro x hx
 have := gls_sizes l _ x hx
 unfold longB
 simp; omega
theorem genL_ok (l : List Int) : okL (genL l) := by
 refine ⟨by have := genL_len l; omega, fun x hx => ?_⟩
 have := gls_sizes l _ x hx
 exact ⟨by omega, by omega⟩
theorem has_hit (L : List Lf) (k : ByteArray) (ho : ord L) (h : hitB L k = true) : hasI L k = (cb L k : Nat) := by
 unfold hitB at h
 rw [Bool.and_eq_true, decide_eq_true_eq, decide_eq_true_eq] at h
 obtain ⟨h1, h2⟩ := h
 rw [List.getD_eq_getElem?_getD, List.getElem?_eq_getElem h1] at h2
 unfold hasI
 rw [findIdx_take (cb L k) h1 (fun x hx => ?_) (decide_eq_true h2)]
 rw [List.mem_iff_getElem] at hx
 obtain ⟨i, hi, rfl⟩ := hx
 rw [List.length_take] at hi
 rw [List.getElem_take]
 have := (cb_iff L k ho i (by omega)).2 (by omega)
 refine decide_eq_false (fun e => ?_)
 rw [e, sl_irrefl] at this; cases this
theorem has_miss (L : List Lf) (k : ByteArray) (ho : ord L) (h : hitB L k = false) : hasI L k = -1 := by
 unfold hasI
 rw [findIdx_all (fun x hx => ?_)]
 refine decide_eq_false (fun e => ?_)
 rw [List.mem_iff_getElem] at hx
 obtain ⟨i, hi, rfl⟩ := hx
 have n1 : ¬ i < cb L k := fun hlt => by
  have := (cb_iff L k ho i hi).2 hlt
  rw [e, sl_irrefl] at this; cases this
 have n2 : ¬ cb L k < i := fun hlt => by
  have h3 : sl (L[cb L k]'(by omega)).1 L[i].1 = true := List.pairwise_iff_getElem.1 ho _ _ (by omega) hi hlt
  rw [e] at h3
  have := (cb_iff L k ho (cb L k) (by omega)).1 h3
  omega
 have e2 : i = cb L k := by omega
 subst e2
 rw [← Bool.not_eq_true] at h
 refine h ?_
 unfold hitB
 rw [Bool.and_eq_true, decide_eq_true_eq, decide_eq_true_eq, List.getD_eq_getElem?_getD, List.getElem?_eq_getElem hi]
 exact ⟨hi, e⟩
end Go.Proofs.YtofccgkgjcnfbaaDoor
namespace Go.Proofs.YtofccgkgjcnfbaaDoor
open Go.RowKit Wr Sh
set_option linter.unusedVariables false
set_option maxRecDepth 100000
set_option maxHeartbeats 1000000 in
theorem lawKey_any (A : Option Addr) (L : List Lf) (c : Nat) (n : Int) (w : World) (hl : L.length ≤ 11) (hr : Rd w w.heap.size A (LC L)) (hn : okInt n) (hk : ∀ x ∈ L, x.1.size ≤ 1073741824) :
  Calls Tryd.prog 20 #[.slice A L.length c, .int .i64 n] w fun e w' => ∃ K, e = .returned (.string K) ∧ Below w.heap.size w w' := by
 obtain ⟨N, hN⟩ : ∃ N, N = L.length := ⟨_, rfl⟩
 have hb := ar_bounds n (3 * (N : Int) + 5) (by omega)
 obtain ⟨p, hp⟩ : ∃ p : Nat, p = (ar n (3 * (N : Int) + 5)).toNat := ⟨_, rfl⟩
 have ha := around_any n (3 * (N : Int) + 5) hn.1 (by have := hn.2; omega) (by omega) (by omega) w
 have e1 : ar n (3 * (N : Int) + 5) = (p : Int) := by omega
 have hp2 : p < 3 * N + 5 := by omega
 rw [e1] at ha
 have HA := Lh ha
 have hn1 := hn.1
 have hn2 := hn.2
 rw [← hN] at hl ⊢
 clear ha e1 hp hb hn
 have hcell : ∀ i, i < N → ∃ g o k, A = some ⟨g, o, none⟩ ∧ w.cell? ⟨g, o + i * 2, none⟩ = some (.string k) ∧ k.size ≤ 1073741824 := fun i hi => by
  obtain ⟨g, o, e, hg, hc⟩ := hr (by intro e; have := congrArg List.length e; rw [LC_len] at this; simp only [List.length_nil] at this; omega)
  exact ⟨g, o, _, e, hc _ _ (LC_at L i (by omega)).1, hk _ (List.getElem_mem _)⟩
 clear hr hN hk
 by_cases h1 : p < N
 ·
  obtain ⟨g, o, k, rfl, hc, hks⟩ := hcell p h1
  have i1 : (p : Int) < (N : Int) := by omega
  clear hcell
  go_enter Tryd.func20, Tryd.ntmps20
  go_wp2_with (go_at_call 17; refine HA.out.mono ?_; rintro e w1 ⟨rfl, rfl⟩)
  go_ret
  exact ⟨_, rfl, Below.refl _ _⟩
 ·
  have i1 : (N : Int) ≤ (p : Int) := by omega
  by_cases h2 : p < 2 * N
  ·
   obtain ⟨q, hq⟩ : ∃ q, q = p - N := ⟨_, rfl⟩
   obtain ⟨g, o, k, rfl, hc, hks⟩ := hcell q (by omega)
   have i2 : (p : Int) < 2 * (N : Int) := by omega
   have i3 : (p : Int) - (N : Int) = (q : Int) := by omega
   have i4 : (q : Int) < (N : Int) := by omega
   clear hcell hq
   have hks2 : (k.size : Int) + 1 ≤ 9223372036854775807 := by omega
   have hks3 : k.size + 1 ≤ 9223372036854775807 := by omega
   go_enter Tryd.func20, Tryd.ntmps20
   go_wp2_with (go_at_call 17; refine HA.out.mono ?_; rintro e w1 ⟨rfl, rfl⟩)
   go_ret
   exact ⟨_, rfl, Below.refl _ _⟩
  ·
   clear hcell
   have i2 : 2 * (N : Int) ≤ (p : Int) := by omega
   by_cases h3 : p = 2 * N
   ·
    subst h3
    have i5 : ((2 * N : Nat) : Int) = 2 * (N : Int) := by omega
    rw [i5] at *
    go_enter Tryd.func20, Tryd.ntmps20
    go_wp2_with (go_at_call 17; refine HA.out.mono ?_; rintro e w1 ⟨rfl, rfl⟩)
    go_ret
    exact ⟨_, rfl, Below.refl _ _⟩
   ·
    have i6 : ((p : Int) == 2 * (N : Int)) = false := by rw [beq_eq_false_iff_ne]; omega
    have i7 : (p : Int) ≠ 2 * (N : Int) := by omega
    have HK := Lh (key_any p (by omega) w)
    go_enter Tryd.func20, Tryd.ntmps20
    go_wp2_with (first
     | (go_at_call 17; refine HA.out.mono ?_; rintro e w1 ⟨rfl, rfl⟩)
     | (go_at_call 49; refine HK.out.mono ?_; rintro e w2 ⟨rfl, hb2⟩))
    go_ret
    exact ⟨_, rfl, hb2⟩
end Go.Proofs.YtofccgkgjcnfbaaDoor
namespace Go.Proofs.YtofccgkgjcnfbaaDoor
open Go.RowKit Wr Sh
set_option linter.unusedVariables false
set_option maxRecDepth 100000
set_option maxHeartbeats 2000000 in
theorem same_any (A B : Option Addr) (L : List Lf) (c d : Nat) (w : World) (hl : L.length ≤ 1073741824) (hr : Rd w w.heap.size A (LC L)) (hs : Rd w w.heap.size B (LC L)) :
  Calls Tryd.prog 34 #[.slice A L.length c, .slice B L.length d] w fun e w' => e = .returned (.bool true) ∧ Below w.heap.size w w' := by
 obtain ⟨N, hN⟩ : ∃ N, N = L.length := ⟨_, rfl⟩
 rw [← hN] at hl ⊢
 have HN := Lh hN
 have HR := Lh hr
 have HS := Lh hs
 clear hN hr hs
 go_enter Tryd.func34, Tryd.ntmps34
 go_wp2
 go_loopw [5] (fun s5 wr => ∃ j : Nat, j ≤ N ∧ s5 = .int .i64 j ∧ Below w.heap.size w wr)
  (fun s5 _ => N - (intOf s5).toNat)
 case atStart => exact ⟨0, Nat.zero_le _, rfl, Below.refl _ _⟩
 case round =>
  obtain ⟨j, hj, rfl, hb⟩ := hrel
  by_cases hlt : j < N
  ·
   have hjl : j < L.length := by have := HN.out; omega
   have hne : LC L ≠ [] := by intro e; have := congrArg List.length e; rw [LC_len] at this; simp only [List.length_nil] at this; omega
   obtain ⟨g, o, rfl, hg, hcell⟩ := (HR.out.below hb) hne
   obtain ⟨g2, o2, rfl, hg2, hcell2⟩ := (HS.out.below hb) hne
   have hc1 := hcell _ _ (LC_at L j hjl).1
   have hc2 := hcell _ _ (LC_at L j hjl).2
   have hc3 := hcell2 _ _ (LC_at L j hjl).1
   have hc4 := hcell2 _ _ (LC_at L j hjl).2
   generalize L[j].1 = k at hc1 hc3
   generalize L[j].2 = v at hc2 hc4
   have HB := Lh hb
   have HLS := Lh (show LfAt g o j k v wr ∧ LfAt g2 o2 j k v wr from ⟨⟨hc1, hc2⟩, ⟨hc3, hc4⟩⟩)
   clear hcell hcell2 hb hne hg hg2 hjl hc1 hc2 hc3 hc4
   have i1 : (j : Int) < (N : Int) := by omega
   go_wp2
   refine wp_region_held (S := fun W => LfAt g o j k v W ∧ LfAt g2 o2 j k v W) (by kernel_rfl) ?_
   change wpAnyH _ _ _ _ _ _ _ _ (World.drew wr)
   have hS0 : LfAt g o j k v (World.drew wr) ∧ LfAt g2 o2 j k v (World.drew wr) := HLS.out
   have BD := HB.out.drew
   generalize World.drew wr = Wd at hS0 BD ⊢
   replace BD := Lh BD
   refine tkH 0 ({ dst := some 17, op := Op.move (Operand.tmp 0), type := 24, pos := "ref.go:296", after := #[], guard := none }) (.slice (some ⟨g, o, none⟩) N c) hS0 (fun W hW => ?y1) ?_
   case y1 => go_simp
   try simp only [zp, zn, z1, z2, z3]
   refine tkH 1 ({ dst := some 18, op := Op.move (Operand.tmp 5), type := 3, pos := "ref.go:296", after := #[], guard := none }) (.int .i64 (j : Int)) hS0 (fun W hW => ?y2) ?_
   case y2 => go_simp
   try simp only [zp, zn, z1, z2, z3]
   refine tkH 2 ({ dst := some 19, op := Op.indexAddr 24 (Operand.tmp 17) (Operand.tmp 18), type := 0, pos := "ref.go:296", after := #[dD 0, dD 1], guard := none }) (.pointer (some ⟨g, o + j * 2, none⟩)) hS0 (fun W hW => ?y3) ?_
   case y3 => go_simp
   try simp only [zp, zn, z1, z2, z3]
   refine tkH 3 ({ dst := some 20, op := Op.fieldAddr 87 (Operand.tmp 19) 0, type := 0, pos := "ref.go:296", after := #[dD 2], guard := none }) (.pointer (some ⟨g, o + j * 2, none⟩)) hS0 (fun W hW => ?y4) ?_
   case y4 => go_simp
   try simp only [zp, zn, z1, z2, z3]
   refine tkH 4 ({ dst := some 21, op := Op.load 9 (Operand.tmp 20), type := 9, pos := "ref.go:296", after := #[dD 3], guard := none }) (.string k) hS0 (fun W hW => by have hcl := hW.1.1; go_simp) ?_
   try simp only [zp, zn, z1, z2, z3]
   refine tkH 5 ({ dst := some 22, op := Op.move (Operand.tmp 1), type := 24, pos := "ref.go:296", after := #[], guard := none }) (.slice (some ⟨g2, o2, none⟩) N d) hS0 (fun W hW => ?y6) ?_
   case y6 => go_simp
   try simp only [zp, zn, z1, z2, z3]
   refine tkH 6 ({ dst := some 23, op := Op.move (Operand.tmp 5), type := 3, pos := "ref.go:296", after := #[], guard := none }) (.int .i64 (j : Int)) hS0 (fun W hW => ?y7) ?_
   case y7 => go_simp
   try simp only [zp, zn, z1, z2, z3]
   refine tkH 7 ({ dst := some 24, op := Op.indexAddr 24 (Operand.tmp 22) (Operand.tmp 23), type := 0, pos := "ref.go:296", after := #[dD 5, dD 6], guard := none }) (.pointer (some ⟨g2, o2 + j * 2, none⟩)) hS0 (fun W hW => ?y8) ?_
   case y8 => go_simp
   try simp only [zp, zn, z1, z2, z3]
   refine tkH 8 ({ dst := some 25, op := Op.fieldAddr 87 (Operand.tmp 24) 0, type := 0, pos := "ref.go:296", after := #[dD 7], guard := none }) (.pointer (some ⟨g2, o2 + j * 2, none⟩)) hS0 (fun W hW => ?y9) ?_
   case y9 => go_simp
   try simp only [zp, zn, z1, z2, z3]
   refine tkH 9 ({ dst := some 26, op := Op.load 9 (Operand.tmp 25), type := 9, pos := "ref.go:296", after := #[dD 8], guard := none }) (.string k) hS0 (fun W hW => by have hcl := hW.2.1; go_simp) ?_
   try simp only [zp, zn, z1, z2, z3]
   refine tkH 10 ({ dst := some 27, op := Op.binOp BinOp.neq 9 (Operand.tmp 21) (Operand.tmp 26) 9, type := 4, pos := "ref.go:296", after := #[dD 4, dD 9], guard := none }) (.bool false) hS0 (fun W hW => ?y11) ?_
   case y11 => go_simp
   try simp only [zp, zn, z1, z2, z3]
   refine tkH 11 ({ dst := some 28, op := Op.move (Operand.tmp 27), type := 4, pos := "ref.go:296", after := #[dD 10], guard := none }) (.bool false) hS0 (fun W hW => ?y12) ?_
   case y12 => go_simp
   try simp only [zp, zn, z1, z2, z3]
   refine tkH 12 ({ dst := some 29, op := Op.move (Operand.tmp 0), type := 24, pos := "ref.go:296", after := #[{ on := 11, ground := Ground.guard }], guard := some (11, false) }) (.slice (some ⟨g, o, none⟩) N c) hS0 (fun W hW => ?y13) ?_
   case y13 => go_simp
   try simp only [zp, zn, z1, z2, z3]
   refine tkH 13 ({ dst := some 30, op := Op.move (Operand.tmp 5), type := 3, pos := "ref.go:296", after := #[{ on := 11, ground := Ground.guard }], guard := some (11, false) }) (.int .i64 (j : Int)) hS0 (fun W hW => ?y14) ?_
   case y14 => go_simp
   try simp only [zp, zn, z1, z2, z3]
   refine tkH 14 ({ dst := some 31, op := Op.indexAddr 24 (Operand.tmp 29) (Operand.tmp 30), type := 0, pos := "ref.go:296", after := #[dD 12, dD 13, { on := 11, ground := Ground.guard }], guard := some (11, false) }) (.pointer (some ⟨g, o + j * 2, none⟩)) hS0 (fun W hW => ?y15) ?_
   case y15 => go_simp
   try simp only [zp, zn, z1, z2, z3]
   refine tkH 15 ({ dst := some 32, op := Op.fieldAddr 87 (Operand.tmp 31) 1, type := 0, pos := "ref.go:296", after := #[dD 14, { on := 11, ground := Ground.guard }], guard := some (11, false) }) (.pointer (some ⟨g, o + j * 2 + 1, none⟩)) hS0 (fun W hW => ?y16) ?_
   case y16 => go_simp
   try simp only [zp, zn, z1, z2, z3]
   refine tkH 16 ({ dst := some 33, op := Op.load 9 (Operand.tmp 32), type := 9, pos := "ref.go:296", after := #[dD 15, { on := 11, ground := Ground.guard }], guard := some (11, false) }) (.string v) hS0 (fun W hW => by have hcl := hW.1.2; go_simp) ?_
   try simp only [zp, zn, z1, z2, z3]
   refine tkH 17 ({ dst := some 34, op := Op.move (Operand.tmp 1), type := 24, pos := "ref.go:296", after := #[{ on := 11, ground := Ground.guard }], guard := some (11, false) }) (.slice (some ⟨g2, o2, none⟩) N d) hS0 (fun W hW => ?y18) ?_
   case y18 => go_simp
   try simp only [zp, zn, z1, z2, z3]
   refine tkH 18 ({ dst := some 35, op := Op.move (Operand.tmp 5), type := 3, pos := "ref.go:296", after := #[{ on := 11, ground := Ground.guard }], guard := some (11, false) }) (.int .i64 (j : Int)) hS0 (fun W hW => ?y19) ?_
   case y19 => go_simp
   try simp only [zp, zn, z1, z2, z3]
   refine tkH 19 ({ dst := some 36, op := Op.indexAddr 24 (Operand.tmp 34) (Operand.tmp 35), type := 0, pos := "ref.go:296", after := #[dD 17, dD 18, { on := 11, ground := Ground.guard }], guard := some (11, false) }) (.pointer (some ⟨g2, o2 + j * 2, none⟩)) hS0 (fun W hW => ?y20) ?_
   case y20 => go_simp
   try simp only [zp, zn, z1, z2, z3]
   refine tkH 20 ({ dst := some 37, op := Op.fieldAddr 87 (Operand.tmp 36) 1, type := 0, pos := "ref.go:296", after := #[dD 19, { on := 11, ground := Ground.guard }], guard := some (11, false) }) (.pointer (some ⟨g2, o2 + j * 2 + 1, none⟩)) hS0 (fun W hW => ?y21) ?_
   case y21 => go_simp
   try simp only [zp, zn, z1, z2, z3]
   refine tkH 21 ({ dst := some 38, op := Op.load 9 (Operand.tmp 37), type := 9, pos := "ref.go:296", after := #[dD 20, { on := 11, ground := Ground.guard }], guard := some (11, false) }) (.string v) hS0 (fun W hW => by have hcl := hW.2.2; go_simp) ?_
   try simp only [zp, zn, z1, z2, z3]
   refine tkH 22 ({ dst := some 39, op := Op.binOp BinOp.neq 9 (Operand.tmp 33) (Operand.tmp 38) 9, type := 4, pos := "ref.go:296", after := #[dD 16, dD 21, { on := 11, ground := Ground.guard }], guard := some (11, false) }) (.bool false) hS0 (fun W hW => ?y23) ?_
   case y23 => go_simp
   try simp only [zp, zn, z1, z2, z3]
   refine tkH 23 ({ dst := some 40, op := Op.pick (Operand.tmp 28) (Operand.const (Value.bool true)) (Operand.tmp 39), type := 4, pos := "ref.go:296", after := #[dD 11, dD 22], guard := none }) (.bool false) hS0 (fun W hW => ?y24) ?_
   case y24 => go_simp
   try simp only [zp, zn, z1, z2, z3]
   refine wpAnyH_done (by kernel_rfl) ?_ _
   try simp only [zp, zn, z1, z2, z3]
   go_wp2
   go_roundw
   case rel => exact ⟨j + 1, by omega, by go_num, BD.out⟩
   case measure => simp only [intOf]; omega
  ·
   obtain rfl : j = N := by omega
   go_wp2
   go_ret
   exact ⟨rfl, hb⟩
end Go.Proofs.YtofccgkgjcnfbaaDoor
namespace Go.Proofs.YtofccgkgjcnfbaaDoor
open Go.RowKit Wr Sh
set_option linter.unusedVariables false
set_option maxRecDepth 100000
structure Few (p : Pf) : Prop where
 ok : okL p.leaves
 sides : p.sides.length ≤ 11
 ints : okInt p.first ∧ okInt p.size
theorem few_shown (L : List Lf) (hN : L.length ≤ 11) (hk : okL L) (f e : Nat) (hf : f ≤ 11) : Few (shown node lf top L f e) := by
 refine ⟨ok_cut hk _ _, ?_, ⟨?_, ?_⟩, ⟨?_, ?_⟩⟩
 ·
  rw [shown_sides]
  split
  ·
   simp
  ·
   have := sides_le node (leafAt lf L) f e L.length 0 L.length (by omega) (by omega); omega
 ·
  show -9223372036854775808 ≤ (f : Int); omega
 ·
  show (f : Int) ≤ 9223372036854775807; omega
 ·
  show -9223372036854775808 ≤ (L.length : Int); omega
 ·
  show (L.length : Int) ≤ 9223372036854775807; omega
theorem few_noPf : Few noPf := ⟨⟨by decide, fun x h => by cases h⟩, by decide, ⟨by decide, by decide⟩, ⟨by decide, by decide⟩⟩
theorem few_prove (L : List Lf) (k : ByteArray) (hN : L.length ≤ 11) (hk : okL L) (hv : validE L = 0) : Few (proveR node lf top L k).1 := by
 have := cb_le L k
 unfold proveR
 rw [if_pos hv]
 dsimp only
 split
 ·
  exact few_shown L hN hk _ _ (by omega)
 ·
  exact few_shown L hN hk _ _ (by omega)
end Go.Proofs.YtofccgkgjcnfbaaDoor
