/-
  The closure in merkle's isUnder does as Told says.
  Conditions: at most 2^30 leaves and sides, keys and values of at most 2^30 bytes; the table of the round constants is as the text lays it.
-/
import Derived.Test.YtofccgkgjcnfbaaDoorZ
import Derived.Test.YtofccgkgjcnfbaaDoorPof
set_option linter.unusedSimpArgs false
namespace Go.Proofs.YtofccgkgjcnfbaaDoor
open Go.RowKit Wr Sh
set_option linter.unusedVariables false
set_option maxRecDepth 100000
set_option maxHeartbeats 1000000 in
theorem single_moreI (a b : Int) (gv : Nat) (w : World) (ha0 : -1073741824 ≤ a) (ha : a ≤ 1073741824) (hb0 : -1073741824 ≤ b) (hb : b ≤ 1073741824) (hab : (1 : Int) < b - a) :
  Calls Tryd.prog 78 #[.int .i64 a, .int .i64 b, .pointer (some ⟨gv, 0, none⟩)] w fun e w' => e = .returned (.tuple #[.agg Z16.toArray, .bool false]) ∧ Below w.heap.size w w' := by
 have hZ := hZ16
 have K1 := Lh (heap_alloc_new w (.cells Z16.toArray 29))
 have HB := Lh ((Below.refl w.heap.size w).alloc (Nat.le_refl _) (.cells Z16.toArray 29))
 have ZO := Lh (show Z16.toArray.all (·.oneCell') = true from one8 (List.replicate 16 0))
 have ZS := Lh (show (Tryd.prog.info? 29).map (·.size) = some Z16.toArray.size from size29' (List.replicate 16 0) rfl)
 go_enter Tryd.func78, Tryd.ntmps78
 go_wp2_with (with_reducible refine wpList_store_row rfl 29 (.tmp 5) (.tmp 11) rfl w.heap.size Z16.toArray rfl rfl 29 _ K1.out ZS.out rfl ZO.out ?_)
 refine bodyPost_ret (v := .tuple #[.agg Z16.toArray, .bool false]) ?_ rfl ⟨rfl, belowRow HB.out (Nat.le_refl _) _⟩
 have hr := run_loadVar_row (P := Tryd.prog) _ w.heap.size 29 29 Z16.toArray (0, 0) (.array 16 5) (heap_setRow _ w.heap.size Z16.toArray _ 29 K1.out) Tryd.underlying29 rfl (size29' (List.replicate 16 0) rfl)
 simp [results, Tryd.results78, asAddr, hr]
theorem dig_cell : ∀ (S : List (List UInt8)) (hS : ∀ d ∈ S, d.length = 16) (u : Nat) (hu : u < S.length) (j : Nat) (v : Value), (B8 S[u])[j]? = some v → (B8 S.flatten)[u * 16 + j]? = some v
 | d :: S, hS, 0, _, j, v, h => by
  have hd := hS d (by simp)
  have hj := (List.getElem?_eq_some_iff.1 h).1
  rw [List.flatten_cons, B8_append, List.getElem?_append_left (by simpa [B8] using hj)]
  simpa using h
 | d :: S, hS, u + 1, hu, j, v, h => by
  have hd := hS d (by simp)
  rw [List.flatten_cons, B8_append, List.getElem?_append_right (by rw [B8_len, hd]; omega), B8_len, hd, show (u + 1) * 16 + j - 16 = u * 16 + j by omega]
  exact dig_cell S (fun x hx => hS x (by simp [hx])) u (by simpa using hu) j v h
theorem sum16 : ∀ (S : List (List UInt8)), (∀ d ∈ S, d.length = 16) → (S.map List.length).sum = S.length * 16
 | [], _ => rfl
 | d :: S, h => by
  rw [List.map_cons, List.sum_cons, sum16 S (fun x hx => h x (by simp [hx])), h d (by simp), List.length_cons]; omega
structure PlU (Bl B gv gp ge g8 gu : Nat) : Prop where
 b1 : 1 < Bl
 b2 : Bl ≤ B
 u : Bl ≤ gu ∧ gu < B
 v : gv < B ∧ gv ≠ gu
 p : gp < B ∧ gp ≠ gu
 e : ge < B ∧ ge ≠ gu
 p8 : g8 < B ∧ g8 ≠ gu
structure StU (Bl B gv gp ge g8 gu : Nat) (A1 A2 : Option Addr) (L : List Lf) (S : List (List UInt8)) (c1 c2 first last : Nat) (sz : Int) (u : Nat) (W : World) : Prop where
 size : B ≤ W.heap.size
 leaf : LeafAt Bl gv A1 L c1 W
 p : Blk W gp 50 (PR (first : Int) sz (.slice A1 L.length c1) (.slice A2 S.length c2))
 rd : Rd W Bl A2 (B8 S.flatten)
 ce : W.cell? ⟨ge, 0, none⟩ = some (.int .i64 (last : Int))
 c8 : W.cell? ⟨g8, 0, none⟩ = some (.func (.func 78) #[] #[.pointer (some ⟨gv, 0, none⟩)])
 u : Blk W gu 3 [.int .i64 (u : Int)]
def InvU (Bl B gv gp ge g8 gu : Nat) (A1 A2 : Option Addr) (L : List Lf) (S : List (List UInt8)) (c1 c2 first last : Nat) (sz : Int) (u : Nat) (O : Nat → Prop) (W : World) : Prop :=
 (∀ k, O k ↔ k = gu) ∧ StU Bl B gv gp ge g8 gu A1 A2 L S c1 c2 first last sz u W
section
variable {Bl B gv gp ge g8 gu : Nat} {A1 A2 : Option Addr} {L : List Lf} {S : List (List UInt8)} {c1 c2 first last : Nat} {sz : Int} {u : Nat} {W W' : World}
theorem StU.keep (pl : PlU Bl B gv gp ge g8 gu) (h : StU Bl B gv gp ge g8 gu A1 A2 L S c1 c2 first last sz u W) (hs : W.heap.size ≤ W'.heap.size) {u' : Nat} (hu : Blk W' gu 3 [.int .i64 (u' : Int)]) (hk : ∀ k, k < W.heap.size → k < B → k ≠ gu → W'.heap[k]? = W.heap[k]?) : StU Bl B gv gp ge g8 gu A1 A2 L S c1 c2 first last sz u' W' where
 size := Nat.le_trans h.size hs
 leaf := h.leaf.keep pl.b1 hs (fun k h1 h2 => hk k h1 (by have := pl.b2; have := pl.v; omega) (by have := pl.u; have := pl.v; omega))
 p := (hk gp h.p.lt pl.p.1 pl.p.2).trans h.p
 rd := fun hn => by
  obtain ⟨g, o, e, hb, hc⟩ := h.rd hn
  exact ⟨g, o, e, hb, fun j x hx => (World.cell?_of_block (hk g (World.block_lt_of_cell? _ _ (hc j x hx)) (by have := pl.b2; omega) (by have := pl.u; omega))).trans (hc j x hx)⟩
 ce := (World.cell?_of_block (a := ⟨ge, 0, none⟩) (hk ge (World.block_lt_of_cell? _ _ h.ce) pl.e.1 pl.e.2)).trans h.ce
 c8 := (World.cell?_of_block (a := ⟨g8, 0, none⟩) (hk g8 (World.block_lt_of_cell? _ _ h.c8) pl.p8.1 pl.p8.2)).trans h.c8
 u := hu
theorem StU.below (pl : PlU Bl B gv gp ge g8 gu) (h : StU Bl B gv gp ge g8 gu A1 A2 L S c1 c2 first last sz u W) (hb : Below W.heap.size W W') : StU Bl B gv gp ge g8 gu A1 A2 L S c1 c2 first last sz u W' :=
 h.keep pl hb.size (h.u.below hb h.u.lt) (fun k hk _ _ => hb.block k hk)
set_option maxHeartbeats 4000000 in
theorem under_in (pl : PlU Bl B gv gp ge g8 gu) (hL : okL L) (a b : Nat) (w : World) (hab : a < b) (hb : b ≤ 1073741824) (hc1 : first < b) (hc2 : a < last) (hf : first ≤ 1073741824) (hla : last = first + L.length) (hlb : last ≤ 1073741824)
  (h : StU Bl B gv gp ge g8 gu A1 A2 L S c1 c2 first last sz u w) (D : List UInt8) (t : Bool) (hG : Hid ((if 1 < b - a then (List.replicate 16 0, false) else (leafAt lf L (a - first), true)) = (D, t))) :
  Calls Tryd.prog 87 #[.int .i64 (a : Int), .int .i64 (b : Int), .pointer (some ⟨gp, 0, none⟩), .pointer (some ⟨ge, 0, none⟩), .pointer (some ⟨g8, 0, none⟩), .pointer (some ⟨gu, 0, none⟩)] w fun e w' =>
   e = .returned (.tuple #[.agg (B8 D).toArray, .bool t]) ∧ Below w.heap.size w w' := by
 have hZ := hZ16
 have HDl := Lh (show D.length = 16 by
  have := hG.out
  split at this
  ·
   simp only [Prod.mk.injEq] at this; rw [← this.1]; rfl
  ·
   simp only [Prod.mk.injEq] at this; rw [← this.1]; exact dof_len _ _)
 obtain ⟨W1, hW1⟩ : ∃ W, W = w.alloc (.cells Z16.toArray 29) := ⟨_, rfl⟩
 have B1 := Lh (show Below w.heap.size w W1 by rw [hW1]; exact (Below.refl _ _).alloc (Nat.le_refl _) _)
 have Z1 := Lh (show Blk W1 w.heap.size 29 Z16 by rw [hW1]; exact Blk.new w 29 Z16)
 have S1 := Lh (h.below pl B1.out)
 have HW := Lh hW1
 have HC : Hid (Calls Tryd.prog 78 #[.int .i64 ((a : Int) - (first : Int)), .int .i64 ((b : Int) - (first : Int)), .pointer (some ⟨gv, 0, none⟩)] W1 fun e W' => e = .returned (.tuple #[.agg (B8 D).toArray, .bool t]) ∧ Below W1.heap.size W1 W') := Lh (by
  have hg := hG.out
  by_cases h1 : 1 < b - a
  ·
   rw [if_pos h1] at hg
   simp only [Prod.mk.injEq] at hg
   rw [← hg.1, ← hg.2]
   exact single_moreI _ _ gv W1 (by omega) (by omega) (by omega) (by omega) (by omega)
  ·
   rw [if_neg h1] at hg
   simp only [Prod.mk.injEq] at hg
   rw [← hg.1, ← hg.2]
   have := single_any Bl gv A1 L c1 hL W1 S1.out.leaf (a - first) (b - first) (by omega) (by omega)
   have e : gSingle (leafAt lf L) () (a - first) (b - first) = ((leafAt lf L (a - first), true), ()) := by unfold gSingle; rw [if_neg (by omega)]
   rw [e, show ((a - first : Nat) : Int) = (a : Int) - (first : Int) by omega, show ((b - first : Nat) : Int) = (b : Int) - (first : Int) by omega] at this
   exact this)
 have e0 : W1.cell? ⟨gp, 0, none⟩ = some (.int .i64 (first : Int)) := (S1.out.p.cell 0).trans rfl
 have ee := S1.out.ce
 have e8 := S1.out.c8
 have hcI : (first : Int) < (b : Int) := by omega
 have hcJ : (a : Int) < (last : Int) := by omega
 clear h hW1 hL pl hla
 go_enter Tryd.func87, Tryd.ntmps87
 go_upto_region 1 with fail
 rw [← HW.out]
 go_wp2_with fail
 refine HC.out.mono ?_; rintro e w2 ⟨rfl, hb2⟩
 have B2 := Lh (B1.out.trans (hb2.mono B1.out.size))
 have Z2 := Lh (show w2.heap[w.heap.size]? = some (.cells Z16.toArray 29 (0, 0)) from Z1.out.below hb2 Z1.out.lt)
 clear hb2 e0 ee e8 HC
 go_wp2_with (with_reducible refine wpList_store_row rfl 29 (.tmp 8) (.tmp 29) rfl w.heap.size (B8 D).toArray rfl rfl 29 _ Z2.out (size29' _ HDl.out) (Z16_size _ HDl.out) (one8 _) ?_)
 refine bodyPost_ret (v := .tuple #[.agg (B8 D).toArray, .bool t]) ?_ rfl ⟨rfl, belowRow B2.out (Nat.le_refl _) _⟩
 have hr := run_loadVar_row (P := Tryd.prog) _ w.heap.size 29 29 (B8 D).toArray (0, 0) (.array 16 5) (heap_setRow w2 w.heap.size (B8 D).toArray _ 29 Z2.out) Tryd.underlying29 rfl (size29' _ HDl.out)
 simp [results, Tryd.results87, asAddr, hr]
set_option maxHeartbeats 4000000 in
theorem under_out (pl : PlU Bl B gv gp ge g8 gu) (a b : Nat) (w : World) (hab : a < b) (hb : b ≤ 1073741824) (hc : ¬ first < b ∨ first < b ∧ ¬ a < last) (hf : first ≤ 1073741824) (hlb : last ≤ 1073741824) (hu : u ≤ a) (hm : S.length ≤ 1073741824) (hS : ∀ d ∈ S, d.length = 16)
  (h : StU Bl B gv gp ge g8 gu A1 A2 L S c1 c2 first last sz u w) (D : List UInt8) (hD : Hid (D = if u + 1 > S.length then List.replicate 16 0 else S.getD u [])) :
  Calls Tryd.prog 87 #[.int .i64 (a : Int), .int .i64 (b : Int), .pointer (some ⟨gp, 0, none⟩), .pointer (some ⟨ge, 0, none⟩), .pointer (some ⟨g8, 0, none⟩), .pointer (some ⟨gu, 0, none⟩)] w fun e w' =>
   e = .returned (.tuple #[.agg (B8 D).toArray, .bool true]) ∧ StU Bl B gv gp ge g8 gu A1 A2 L S c1 c2 first last sz (u + 1) w' ∧ Fr (fun k => k = gu) (fun k => k = gu) w w' := by
 have hZ := hZ16
 have PL := Lh pl
 have HS := Lh hS
 obtain ⟨W1, hW1⟩ : ∃ W, W = w.alloc (.cells Z16.toArray 29) := ⟨_, rfl⟩
 have B1 := Lh (show Below w.heap.size w W1 by rw [hW1]; exact (Below.refl _ _).alloc (Nat.le_refl _) _)
 have Z1 := Lh (show Blk W1 w.heap.size 29 Z16 by rw [hW1]; exact Blk.new w 29 Z16)
 have S1 := Lh (h.below pl B1.out)
 have HS0 := Lh h
 have HW := Lh hW1
 have hgu := h.u.lt
 have hBs := h.size
 obtain ⟨W2, hW2⟩ : ∃ W, W = W1.setCell ⟨gu, 0, none⟩ (.int .i64 ((u : Int) + 1)) := ⟨_, rfl⟩
 have hs2 : W2.heap.size = W1.heap.size := by rw [hW2]; simp [World.setCell]
 have hk2 : ∀ k, k ≠ gu → W2.heap[k]? = W1.heap[k]? := fun k hk => by rw [hW2]; exact Below.heap_setCell _ _ _ _ hk
 have S2 := Lh (show StU Bl B gv gp ge g8 gu A1 A2 L S c1 c2 first last sz (u + 1) W2 from S1.out.keep pl (by omega) (by rw [hW2]; exact S1.out.u.put 0 _) (fun k _ _ hk => hk2 k hk))
 have Z2 := Lh (show W2.heap[w.heap.size]? = some (.cells Z16.toArray 29 (0, 0)) from (hk2 _ (by omega)).trans Z1.out)
 have F2 := Lh (show Fr (fun k => k = gu) (fun k => k = gu) w W2 from ⟨by rw [hW2]; exact B1.out.os, by rw [hW2]; exact B1.out.tape, by rw [hW2]; exact B1.out.output, by have := B1.out.size; omega, fun k hk ho => (hk2 k ho).trans (B1.out.block k hk), fun k hk => .inl hk⟩)
 have HW2 := Lh hW2
 have e0 : W1.cell? ⟨gp, 0, none⟩ = some (.int .i64 (first : Int)) := (S1.out.p.cell 0).trans rfl
 have ee := S1.out.ce
 have eu : W1.cell? ⟨gu, 0, none⟩ = some (.int .i64 (u : Int)) := (S1.out.u.cell 0).trans rfl
 have efu := S1.out.u.frozen 0
 have q0 : W2.cell? ⟨gu, 0, none⟩ = some (.int .i64 ((u : Int) + 1)) := (S2.out.u.cell 0).trans rfl
 have q3 : W2.cell? ⟨gp, 3, none⟩ = some (.slice A2 S.length c2) := (S2.out.p.cell 3).trans rfl
 have HBs := Lh hBs
 clear h hW1 hS pl hk2 hs2 hW2 hBs
 have go : ∀ (hc1 : ((first : Int) < (b : Int)) ∧ ¬ ((a : Int) < (last : Int)) ∨ ¬ ((first : Int) < (b : Int))), True := fun _ => trivial
 by_cases hs : S.length < u + 1
 ·
  have HD := Lh (show D = List.replicate 16 0 by rw [hD.out, if_pos hs])
  have hsI : (S.length : Int) < (u : Int) + 1 := by omega
  have ZO := Lh (show Z16.toArray.all (·.oneCell') = true from one8 (List.replicate 16 0))
  have ZS := Lh (show (Tryd.prog.info? 29).map (·.size) = some Z16.toArray.size from size29' (List.replicate 16 0) rfl)
  rcases hc with hc | ⟨hc0, hc⟩
  ·
   have hcI : ¬ (first : Int) < (b : Int) := by omega
   go_enter Tryd.func87, Tryd.ntmps87
   go_upto_region 1 with fail
   rw [← HW.out]
   go_upto_region 4 with fail
   rw [← HW2.out]
   go_wp2_with (first
    | (with_reducible refine wpList_store_row rfl 29 (.tmp 8) (.tmp 38) rfl w.heap.size Z16.toArray rfl rfl 29 _ Z2.out ZS.out rfl ZO.out ?_))
   refine bodyPost_ret (v := .tuple #[.agg Z16.toArray, .bool true]) ?_ rfl ⟨by rw [HD.out]; try rfl, ?_, F2.out.row (Nat.le_refl _) _⟩
   ·
    have hr := run_loadVar_row (P := Tryd.prog) _ w.heap.size 29 29 Z16.toArray (0, 0) (.array 16 5) (heap_setRow W2 w.heap.size Z16.toArray _ 29 Z2.out) Tryd.underlying29 rfl ZS.out
    simp [results, Tryd.results87, asAddr, hr]
   ·
    have h1 := HBs.out; have h2 := PL.out.u
    exact S2.out.keep PL.out (by simp) (S2.out.u.setRow (by omega) _) (fun k hk hkB _ => heap_setRow_other _ _ _ _ (by omega))
  ·
   have hcI : (first : Int) < (b : Int) := by omega
   have hcJ : ¬ (a : Int) < (last : Int) := by omega
   go_enter Tryd.func87, Tryd.ntmps87
   go_upto_region 1 with fail
   rw [← HW.out]
   go_upto_region 4 with fail
   rw [← HW2.out]
   go_wp2_with (first
    | (with_reducible refine wpList_store_row rfl 29 (.tmp 8) (.tmp 38) rfl w.heap.size Z16.toArray rfl rfl 29 _ Z2.out ZS.out rfl ZO.out ?_))
   refine bodyPost_ret (v := .tuple #[.agg Z16.toArray, .bool true]) ?_ rfl ⟨by rw [HD.out]; try rfl, ?_, F2.out.row (Nat.le_refl _) _⟩
   ·
    have hr := run_loadVar_row (P := Tryd.prog) _ w.heap.size 29 29 Z16.toArray (0, 0) (.array 16 5) (heap_setRow W2 w.heap.size Z16.toArray _ 29 Z2.out) Tryd.underlying29 rfl ZS.out
    simp [results, Tryd.results87, asAddr, hr]
   ·
    have h1 := HBs.out; have h2 := PL.out.u
    exact S2.out.keep PL.out (by simp) (S2.out.u.setRow (by omega) _) (fun k hk hkB _ => heap_setRow_other _ _ _ _ (by omega))
 ·
  obtain ⟨E, hE⟩ : ∃ E, E = S.getD u [] := ⟨_, rfl⟩
  have HD := Lh (show D = E by rw [hD.out, if_neg hs, hE])
  have hul : u < S.length := by omega
  have hE2 : E = S[u] := by rw [hE, List.getD_eq_getElem?_getD, List.getElem?_eq_getElem hul]; rfl
  have HEl := Lh (show E.length = 16 by rw [hE2]; exact HS.out _ (List.getElem_mem hul))
  obtain ⟨gs, os, rfl, hgs, hcs⟩ := S2.out.rd (by
   intro e
   have h1 := congrArg List.length e
   rw [B8_len] at h1
   have h2 : (S.flatten).length = S.length * 16 := by rw [List.length_flatten]; exact sum16 S HS.out
   simp only [List.length_nil] at h1; omega)
  have HLD := Lh (show ∀ j v, (B8 E)[j]? = some v → W2.cell? ((⟨gs, os + u * 16, none⟩ : Addr).add j) = some v from fun j v hv => by
   rw [Addr.add_lit, Nat.add_assoc]
   exact hcs _ v (dig_cell S HS.out u hul j v (by rw [← hE2]; exact hv)))
  have hsI : ¬ (S.length : Int) < (u : Int) + 1 := by omega
  have hul2 : (u : Int) < (S.length : Int) := by omega
  have hua : (u : Int) ≤ 1073741824 := by omega
  clear hcs hE hE2
  rcases hc with hc | ⟨hc0, hc⟩
  ·
   have hcI : ¬ (first : Int) < (b : Int) := by omega
   go_enter Tryd.func87, Tryd.ntmps87
   go_upto_region 1 with fail
   rw [← HW.out]
   go_upto_region 4 with fail
   rw [← HW2.out]
   go_wp2_with (first
    | (refine wpList_load_at rfl 29 (.tmp 43) rfl ⟨gs, os + u * 16, none⟩ rfl (B8 E) (.array 16 5) HLD.out Tryd.underlying29 rfl (size29 _ HEl.out) ?_)
    | (with_reducible refine wpList_store_row rfl 29 (.tmp 8) (.tmp 44) rfl w.heap.size (B8 E).toArray rfl rfl 29 _ Z2.out (size29' _ HEl.out) (Z16_size _ HEl.out) (one8 _) ?_))
   refine bodyPost_ret (v := .tuple #[.agg (B8 E).toArray, .bool true]) ?_ rfl ⟨by rw [HD.out]; try rfl, ?_, F2.out.row (Nat.le_refl _) _⟩
   ·
    have hr := run_loadVar_row (P := Tryd.prog) _ w.heap.size 29 29 (B8 E).toArray (0, 0) (.array 16 5) (heap_setRow W2 w.heap.size (B8 E).toArray _ 29 Z2.out) Tryd.underlying29 rfl (size29' _ HEl.out)
    simp [results, Tryd.results87, asAddr, hr]
   ·
    have h1 := HBs.out; have h2 := PL.out.u
    exact S2.out.keep PL.out (by simp) (S2.out.u.setRow (by omega) _) (fun k hk hkB _ => heap_setRow_other _ _ _ _ (by omega))
  ·
   have hcI : (first : Int) < (b : Int) := by omega
   have hcJ : ¬ (a : Int) < (last : Int) := by omega
   go_enter Tryd.func87, Tryd.ntmps87
   go_upto_region 1 with fail
   rw [← HW.out]
   go_upto_region 4 with fail
   rw [← HW2.out]
   go_wp2_with (first
    | (refine wpList_load_at rfl 29 (.tmp 43) rfl ⟨gs, os + u * 16, none⟩ rfl (B8 E) (.array 16 5) HLD.out Tryd.underlying29 rfl (size29 _ HEl.out) ?_)
    | (with_reducible refine wpList_store_row rfl 29 (.tmp 8) (.tmp 44) rfl w.heap.size (B8 E).toArray rfl rfl 29 _ Z2.out (size29' _ HEl.out) (Z16_size _ HEl.out) (one8 _) ?_))
   refine bodyPost_ret (v := .tuple #[.agg (B8 E).toArray, .bool true]) ?_ rfl ⟨by rw [HD.out]; try rfl, ?_, F2.out.row (Nat.le_refl _) _⟩
   ·
    have hr := run_loadVar_row (P := Tryd.prog) _ w.heap.size 29 29 (B8 E).toArray (0, 0) (.array 16 5) (heap_setRow W2 w.heap.size (B8 E).toArray _ 29 Z2.out) Tryd.underlying29 rfl (size29' _ HEl.out)
    simp [results, Tryd.results87, asAddr, hr]
   ·
    have h1 := HBs.out; have h2 := PL.out.u
    exact S2.out.keep PL.out (by simp) (S2.out.u.setRow (by omega) _) (fun k hk hkB _ => heap_setRow_other _ _ _ _ (by omega))
end
end Go.Proofs.YtofccgkgjcnfbaaDoor
