/-
  Contracts and words of several parts of the program (W1Next, W1List, W1Dig), one after the other.
  Conditions: those that each says.
-/
import Derived.Test.YtofccgkgjcnfbaaDoorGW1PutW1RLisW1GetW1Len
import Derived.Deep.RegionHeld3
import Derived.Deep.RegionLaw
import Derived.Deep.AppendLies
import Derived.BigQuiet
import Derived.Test.YtofccgkgjcnfbaaDoorZ
import Derived.Laws.Cover3
set_option linter.unusedSimpArgs false
namespace Go.Proofs.YtofccgkgjcnfbaaDoor.W1
open Go.RowKit Wr Sh
set_option maxRecDepth 100000
set_option linter.unusedVariables false
theorem Tryd.info3 : (Tryd.prog.info? 3).map (fun i => (i.zero, i.size, i.bytes)) = some (some (.int .i64 0), 1, 8) := by kernel_rfl
theorem next_end {g0 g1 g2 g3 base B0 k gg cap tv e size : Nat} {V0 V1 V2 V3 V4 v : Value} {ys ns news : List Value} {w W w1 : World} {t0 t1 t2 t3 : TypeId}
    (k0 : Blk W g0 t0 [V0]) (k1 : Blk W g1 t1 [V1]) (k2 : Blk W g2 t2 [V2]) (k3 : Blk W g3 t3 [V3]) (hbel : Below B0 w W)
    (hown' : W.ownsRow base e size v k ys) (hg0 : g0 < base) (hg1 : g1 < base) (hg2 : g2 < base) (hg3 : g3 < base) (h23 : g2 ≠ g3) (h02 : g0 ≠ g2) (h03 : g0 ≠ g3) (h12 : g1 ≠ g2) (h13 : g1 ≠ g3)
    (hB0 : B0 ≤ g0) (hB1 : B0 ≤ g1) (hB2 : B0 ≤ g2) (hB3 : B0 ≤ g3)
    (hown1 : w1.ownsRow base e size (.slice (some ⟨gg, 0, none⟩) (k + 1) cap) (k + 1) (ys ++ news)) (hgrow0 : (W.alloc (.cells ns.toArray tv)).drew.grownBy w1 v.ownBlock) :
    Blk ((w1.setCell ⟨g3, 0, none⟩ (.slice (some ⟨gg, 0, none⟩) (k + 1) cap)).setCell ⟨g2, 0, none⟩ V4) g0 t0 [V0] ∧
    Blk ((w1.setCell ⟨g3, 0, none⟩ (.slice (some ⟨gg, 0, none⟩) (k + 1) cap)).setCell ⟨g2, 0, none⟩ V4) g1 t1 [V1] ∧
    Blk ((w1.setCell ⟨g3, 0, none⟩ (.slice (some ⟨gg, 0, none⟩) (k + 1) cap)).setCell ⟨g2, 0, none⟩ V4) g2 t2 [V4] ∧
    Blk ((w1.setCell ⟨g3, 0, none⟩ (.slice (some ⟨gg, 0, none⟩) (k + 1) cap)).setCell ⟨g2, 0, none⟩ V4) g3 t3 [.slice (some ⟨gg, 0, none⟩) (k + 1) cap] ∧
    ((w1.setCell ⟨g3, 0, none⟩ (.slice (some ⟨gg, 0, none⟩) (k + 1) cap)).setCell ⟨g2, 0, none⟩ V4).ownsRow base e size (.slice (some ⟨gg, 0, none⟩) (k + 1) cap) (k + 1) (ys ++ news) ∧
    Below B0 w ((w1.setCell ⟨g3, 0, none⟩ (.slice (some ⟨gg, 0, none⟩) (k + 1) cap)).setCell ⟨g2, 0, none⟩ V4) := by
  have hgrow : (W.alloc (.cells ns.toArray tv)).grownBy w1 v.ownBlock := ⟨hgrow0.os, hgrow0.tape, hgrow0.output, hgrow0.size, hgrow0.block⟩
  have hne : ∀ g, g < base → some g ≠ v.ownBlock := fun g hg e => by have := (hown'.lt _ e.symm).1; omega
  have l0 := k0.lt
  have a0 := (k0.alloc (.cells ns.toArray tv)).grown hgrow (hne g0 hg0)
  have a1 := (k1.alloc (.cells ns.toArray tv)).grown hgrow (hne g1 hg1)
  have a2 := (k2.alloc (.cells ns.toArray tv)).grown hgrow (hne g2 hg2)
  have a3 := (k3.alloc (.cells ns.toArray tv)).grown hgrow (hne g3 hg3)
  refine ⟨?_, ?_, ?_, ?_, ?_, ?_⟩
  · exact (a0.far (p := ⟨g3, 0, none⟩) h03 _).far (p := ⟨g2, 0, none⟩) h02 _
  · exact (a1.far (p := ⟨g3, 0, none⟩) h13 _).far (p := ⟨g2, 0, none⟩) h12 _
  · exact (a2.far (p := ⟨g3, 0, none⟩) h23 _).put 0 _
  · exact (a3.put 0 _).far (p := ⟨g2, 0, none⟩) (Ne.symm h23) _
  · exact ownsRow_setCell_below (ownsRow_setCell_below hown1 (a := ⟨g3, 0, none⟩) hg3 _) (a := ⟨g2, 0, none⟩) hg2 _
  · exact ((hbel.trans ((Below.refl B0 W).alloc (by omega) _)).grown hgrow (by simp; omega) (fun q hq => by have := (hown'.lt q hq).1; omega)).setCell (p := ⟨g3, 0, none⟩) hB3 _ |>.setCell (p := ⟨g2, 0, none⟩) hB2 _
set_option maxRecDepth 100000 in
set_option maxHeartbeats 1000000 in
theorem next_int (g0 g1 g2 g3 base B0 : Nat) (A : Option Addr) (b : List UInt8) (c used k : Nat) (v : Value) (xs : List Int) (w : World)
    (h0 : Blk w g0 134 [.func (.func 90) #[] #[]]) (h1 : Blk w g1 39 [.slice A b.length c]) (h2 : Blk w g2 3 [.int .i64 used]) (h3 : Blk w g3 22 [v])
    (hr : Rd w B0 A (B8 b)) (hc : b.length ≤ c) (hl : b.length ≤ 1099511627776) (hu : used ≤ b.length)
    (hown : w.ownsRow base 3 1 v k (I64 xs)) (hk : k ≤ 1099511627776) (hbase : base ≤ w.heap.size) (hg0 : g0 < base) (hg1 : g1 < base) (hg2 : g2 < base) (hg3 : g3 < base) (h23 : g2 ≠ g3) (h02 : g0 ≠ g2) (h03 : g0 ≠ g3) (h12 : g1 ≠ g2) (h13 : g1 ≠ g3)
    (hB0 : B0 ≤ g0) (hB1 : B0 ≤ g1) (hB2 : B0 ≤ g2) (hB3 : B0 ≤ g3) :
    Calls Tryd.prog 107 #[.pointer (some ⟨g0, 0, none⟩), .pointer (some ⟨g1, 0, none⟩), .pointer (some ⟨g2, 0, none⟩), .pointer (some ⟨g3, 0, none⟩)] w fun e w' =>
      ∃ v', e = .returned (.int .i64 ((decInt (b.drop used)).2.2 : Nat)) ∧ Blk w' g0 134 [.func (.func 90) #[] #[]] ∧ Blk w' g1 39 [.slice A b.length c] ∧ Blk w' g2 3 [.int .i64 ((used + (decInt (b.drop used)).2.1 : Nat) : Int)] ∧ Blk w' g3 22 [v'] ∧
        w'.ownsRow base 3 1 v' (k + 1) (I64 (xs ++ [(decInt (b.drop used)).1])) ∧ Below B0 w w' := by
  obtain ⟨i0, hi0, hz0, hz1, hz2⟩ := info_parts Tryd.info3
  have c0 := h0.cell 0
  have c1 := h1.cell 0
  have c2 := h2.cell 0
  have c3 := h3.cell 0
  simp only [List.getElem?_cons_zero] at c0 c1 c2 c3
  have hlen : (b.drop used).length = b.length - used := by simp
  have hsl : ∀ W : World, (Instr.sliceAt 39 (.slice A b.length c) (some (.int .i64 (used : Int))) none none).run Tryd.prog W = .ok (.slice (if c = used then A else A.map (·.add used)) (b.length - used) (c - used)) W := by
    intro W
    have hu : Tryd.prog.underlying 39 = some (.slice (Tryd.prog.elem 39)) := by kernel_rfl
    have he : Tryd.prog.elem 39 = 5 := by kernel_rfl
    have h5 : (sizeOf 5).run Tryd.prog W = .ok 1 W := by kernel_rfl
    rw [run_sliceAt_slice W 39 _ _ _ _ hu, run_slice_l W 39 A b.length c hu .i64 used (by omega) (by omega), he, h5]
    simp [Result.andThen, sliced]
  have hrc := hr.cut used c (by rw [B8_len]; omega) (by rw [B8_len]; omega)
  have hdr : (B8 b).drop used = B8 (b.drop used) := by simp [B8]
  rw [hdr] at hrc
  obtain ⟨A', hA'⟩ : ∃ A', A' = (if c = used then A else A.map (·.add used)) := ⟨_, rfl⟩
  rw [← hA'] at hrc hsl
  have hcall : ∀ W : World, Rd W B0 A' (B8 (b.drop used)) → Calls Tryd.prog 90 #[.slice A' (b.length - used) (c - used)] W fun e w' => e = .returned (.tuple #[.int .i64 (decInt (b.drop used)).1, .int .i64 ((decInt (b.drop used)).2.1 : Nat), .int .i64 ((decInt (b.drop used)).2.2 : Nat)]) ∧ w' = W := by
    intro W hW
    have := getInt_any A' (b.drop used) (c - used) W B0 hW (by omega) (by omega)
    rw [hlen] at this
    exact this.mono fun e w' ⟨h1, h2⟩ => ⟨h1, h2.symm⟩
  have hu2 := decInt_le (b.drop used)
  rw [hlen] at hu2
  rcases hd : decInt (b.drop used) with ⟨n, u, er⟩
  rw [hd] at hcall hu2
  simp only at hcall hu2 ⊢
  have HC := Lib.hid hcall
  clear hcall hA' hd hlen hdr
  go_enter Tryd.func107, Tryd.ntmps107
  go_wp2_with fail
  go_quiet ((go_at_call 90; exact Calls.quiet_of_same (HC.out _ hrc)))
  go_wp2_with fail
  have k0 := h0.drewN nq
  have k1 := h1.drewN nq
  have k2 := h2.drewN nq
  have k3 := h3.drewN nq
  have hown' : (w.drewN nq).ownsRow base 3 1 v k (I64 xs) := hown
  have hbel : Below B0 w (w.drewN nq) := ⟨rfl, rfl, rfl, Nat.le_refl _, fun _ _ => rfl⟩
  have hbase' : base ≤ (w.drewN nq).heap.size := hbase
  clear h0 h1 h2 h3 hown hbase c0 c1 c2 c3 hsl HC hrc hr
  revert k0 k1 k2 k3 hown' hbel hbase'
  generalize w.drewN nq = W
  intro k0 k1 k2 k3 hown' hbel hbase'
  have c2 : W.cell? ⟨g2, 0, none⟩ = some (.int .i64 used) := k2.cell 0
  have c3 : W.cell? ⟨g3, 0, none⟩ = some v := k3.cell 0
  have hne2 : v.ownBlock ≠ some g2 := fun e => by have := (hown'.lt _ e).1; omega
  have hne3 : v.ownBlock ≠ some g3 := fun e => by have := (hown'.lt _ e).1; omega
  have l2 := k2.lt
  have l3 := k3.lt
  go_region_law
    ((refine step_append_lies _ (by rfl) _ _ _ (by rfl) base 3 i0 _ 1 8 Tryd.underlying22 hi0 hz0 hz1 hz2 rfl (by omega) v k (I64 xs) (by rfl) ((hown'.alloc _).drew)
        ⟨W.heap.size, 0, none⟩ 1 1 [.int .i64 n] (by rfl) (by rfl) (World.news_of_block (cs := #[.int .i64 n]) (t := 3) (fr := (0, 0)) (heap_alloc_new W _)) (by simp [Value.oneCell'])
        (by omega) (by unfold maxLen; omega) (by omega) (by simp; omega) (W.heap.size + 1) (by simp) ?_; intro gg cap w1 hown1 hgrow hat hlt; have e3 : w1.cell? ⟨g3, 0, none⟩ = some v := (by rw [hgrow.cell_far _ (by simp; omega) (Ne.symm hne3)]; simpa using (k3.alloc _).cell 0); have e2 : w1.cell? ⟨g2, 0, none⟩ = some (.int .i64 used) := (by rw [hgrow.cell_far _ (by simp; omega) (Ne.symm hne2)]; simpa using (k2.alloc _).cell 0); have f3 : w1.frozen? ⟨g3, 0, none⟩ = false := (by rw [hgrow.frozen_far _ (by simp; omega) (Ne.symm hne3)]; exact (k3.alloc _).frozen 0); have f2 : w1.frozen? ⟨g2, 0, none⟩ = false := (by rw [hgrow.frozen_far _ (by simp; omega) (Ne.symm hne2)]; exact (k2.alloc _).frozen 0)))
  all_goals
    go_wp2
    go_ret
    have hw : IntKind.i64.wrap ((used : Int) + (u : Int)) = ((used + u : Nat) : Int) := by rw [IntKind.wrap_i64]; omega
    have E := next_end (V4 := .int .i64 (IntKind.i64.wrap ((used : Int) + (u : Int)))) k0 k1 k2 k3 hbel hown' hg0 hg1 hg2 hg3 h23 h02 h03 h12 h13 hB0 hB1 hB2 hB3 hown1 (ns := [.int .i64 n]) (tv := 3) hgrow
    exact ⟨_, rfl, E.1, E.2.1, by rw [← hw]; exact E.2.2.1, E.2.2.2.1, by rw [I64, List.map_append]; exact E.2.2.2.2.1, E.2.2.2.2.2⟩
theorem Tryd.info9 : (Tryd.prog.info? 9).map (fun i => (i.zero, i.size, i.bytes)) = some (some (.string ⟨#[]⟩), 1, 16) := by kernel_rfl
def Sb (l : List (List UInt8)) : List Value := l.map fun s => Value.string ⟨s.toArray⟩
set_option maxRecDepth 100000 in
set_option maxHeartbeats 1000000 in
theorem next_str (g0 g1 g2 g3 base B0 : Nat) (A : Option Addr) (b : List UInt8) (c used k : Nat) (v : Value) (xs : List (List UInt8)) (w : World)
    (h0 : Blk w g0 136 [.func (.func 92) #[] #[]]) (h1 : Blk w g1 39 [.slice A b.length c]) (h2 : Blk w g2 3 [.int .i64 used]) (h3 : Blk w g3 47 [v])
    (hr : Rd w B0 A (B8 b)) (hc : b.length ≤ c) (hl : b.length ≤ 1099511627776) (hu : used ≤ b.length)
    (hown : w.ownsRow base 9 1 v k (Sb xs)) (hk : k ≤ 1099511627776) (hbase : base ≤ w.heap.size) (hg0 : g0 < base) (hg1 : g1 < base) (hg2 : g2 < base) (hg3 : g3 < base) (h23 : g2 ≠ g3) (h02 : g0 ≠ g2) (h03 : g0 ≠ g3) (h12 : g1 ≠ g2) (h13 : g1 ≠ g3)
    (hB0 : B0 ≤ g0) (hB1 : B0 ≤ g1) (hB2 : B0 ≤ g2) (hB3 : B0 ≤ g3) :
    Calls Tryd.prog 108 #[.pointer (some ⟨g0, 0, none⟩), .pointer (some ⟨g1, 0, none⟩), .pointer (some ⟨g2, 0, none⟩), .pointer (some ⟨g3, 0, none⟩)] w fun e w' =>
      ∃ v', e = .returned (.int .i64 ((decStr (b.drop used)).2.2 : Nat)) ∧ Blk w' g0 136 [.func (.func 92) #[] #[]] ∧ Blk w' g1 39 [.slice A b.length c] ∧ Blk w' g2 3 [.int .i64 ((used + (decStr (b.drop used)).2.1 : Nat) : Int)] ∧ Blk w' g3 47 [v'] ∧
        w'.ownsRow base 9 1 v' (k + 1) (Sb (xs ++ [(decStr (b.drop used)).1])) ∧ Below B0 w w' := by
  obtain ⟨i0, hi0, hz0, hz1, hz2⟩ := info_parts Tryd.info9
  have c0 := h0.cell 0
  have c1 := h1.cell 0
  have c2 := h2.cell 0
  have c3 := h3.cell 0
  simp only [List.getElem?_cons_zero] at c0 c1 c2 c3
  have hlen : (b.drop used).length = b.length - used := by simp
  have hsl : ∀ W : World, (Instr.sliceAt 39 (.slice A b.length c) (some (.int .i64 (used : Int))) none none).run Tryd.prog W = .ok (.slice (if c = used then A else A.map (·.add used)) (b.length - used) (c - used)) W := by
    intro W
    have hu : Tryd.prog.underlying 39 = some (.slice (Tryd.prog.elem 39)) := by kernel_rfl
    have he : Tryd.prog.elem 39 = 5 := by kernel_rfl
    have h5 : (sizeOf 5).run Tryd.prog W = .ok 1 W := by kernel_rfl
    rw [run_sliceAt_slice W 39 _ _ _ _ hu, run_slice_l W 39 A b.length c hu .i64 used (by omega) (by omega), he, h5]
    simp [Result.andThen, sliced]
  have hrc := hr.cut used c (by rw [B8_len]; omega) (by rw [B8_len]; omega)
  have hdr : (B8 b).drop used = B8 (b.drop used) := by simp [B8]
  rw [hdr] at hrc
  obtain ⟨A', hA'⟩ : ∃ A', A' = (if c = used then A else A.map (·.add used)) := ⟨_, rfl⟩
  rw [← hA'] at hrc hsl
  have hcall : ∀ W : World, Rd W B0 A' (B8 (b.drop used)) → Calls Tryd.prog 92 #[.slice A' (b.length - used) (c - used)] W fun e w' => e = .returned (.tuple #[.string ⟨(decStr (b.drop used)).1.toArray⟩, .int .i64 ((decStr (b.drop used)).2.1 : Nat), .int .i64 ((decStr (b.drop used)).2.2 : Nat)]) ∧ w' = W := by
    intro W hW
    have := getBytes_any A' (b.drop used) (c - used) W B0 hW (by omega) (by omega)
    rw [hlen] at this
    exact this.mono fun e w' ⟨h1, h2⟩ => ⟨h1, h2.symm⟩
  have hu2 := decStr_le (b.drop used)
  rw [hlen] at hu2
  rcases hd : decStr (b.drop used) with ⟨n, u, er⟩
  rw [hd] at hcall hu2
  simp only at hcall hu2 ⊢
  have HC := Lib.hid hcall
  clear hcall hA' hd hlen hdr
  go_enter Tryd.func108, Tryd.ntmps108
  go_wp2_with fail
  go_quiet ((go_at_call 92; exact Calls.quiet_of_same (HC.out _ hrc)))
  go_wp2_with fail
  have k0 := h0.drewN nq
  have k1 := h1.drewN nq
  have k2 := h2.drewN nq
  have k3 := h3.drewN nq
  have hown' : (w.drewN nq).ownsRow base 9 1 v k (Sb xs) := hown
  have hbel : Below B0 w (w.drewN nq) := ⟨rfl, rfl, rfl, Nat.le_refl _, fun _ _ => rfl⟩
  have hbase' : base ≤ (w.drewN nq).heap.size := hbase
  clear h0 h1 h2 h3 hown hbase c0 c1 c2 c3 hsl HC hrc hr
  revert k0 k1 k2 k3 hown' hbel hbase'
  generalize w.drewN nq = W
  intro k0 k1 k2 k3 hown' hbel hbase'
  have c2 : W.cell? ⟨g2, 0, none⟩ = some (.int .i64 used) := k2.cell 0
  have c3 : W.cell? ⟨g3, 0, none⟩ = some v := k3.cell 0
  have hne2 : v.ownBlock ≠ some g2 := fun e => by have := (hown'.lt _ e).1; omega
  have hne3 : v.ownBlock ≠ some g3 := fun e => by have := (hown'.lt _ e).1; omega
  have l2 := k2.lt
  have l3 := k3.lt
  go_region_law
    ((refine step_append_lies _ (by rfl) _ _ _ (by rfl) base 9 i0 _ 1 16 Tryd.underlying47 hi0 hz0 hz1 hz2 rfl (by omega) v k (Sb xs) (by rfl) ((hown'.alloc _).drew)
        ⟨W.heap.size, 0, none⟩ 1 1 [.string ⟨n.toArray⟩] (by rfl) (by rfl) (World.news_of_block (cs := #[.string ⟨n.toArray⟩]) (t := 9) (fr := (0, 0)) (heap_alloc_new W _)) (by simp [Value.oneCell'])
        (by omega) (by unfold maxLen; omega) (by omega) (by simp; omega) (W.heap.size + 1) (by simp) ?_; intro gg cap w1 hown1 hgrow hat hlt; have e3 : w1.cell? ⟨g3, 0, none⟩ = some v := (by rw [hgrow.cell_far _ (by simp; omega) (Ne.symm hne3)]; simpa using (k3.alloc _).cell 0); have e2 : w1.cell? ⟨g2, 0, none⟩ = some (.int .i64 used) := (by rw [hgrow.cell_far _ (by simp; omega) (Ne.symm hne2)]; simpa using (k2.alloc _).cell 0); have f3 : w1.frozen? ⟨g3, 0, none⟩ = false := (by rw [hgrow.frozen_far _ (by simp; omega) (Ne.symm hne3)]; exact (k3.alloc _).frozen 0); have f2 : w1.frozen? ⟨g2, 0, none⟩ = false := (by rw [hgrow.frozen_far _ (by simp; omega) (Ne.symm hne2)]; exact (k2.alloc _).frozen 0)))
  all_goals
    go_wp2
    go_ret
    have hw : IntKind.i64.wrap ((used : Int) + (u : Int)) = ((used + u : Nat) : Int) := by rw [IntKind.wrap_i64]; omega
    have E := next_end (V4 := .int .i64 (IntKind.i64.wrap ((used : Int) + (u : Int)))) k0 k1 k2 k3 hbel hown' hg0 hg1 hg2 hg3 h23 h02 h03 h12 h13 hB0 hB1 hB2 hB3 hown1 (ns := [.string ⟨n.toArray⟩]) (tv := 9) hgrow
    exact ⟨_, rfl, E.1, E.2.1, by rw [← hw]; exact E.2.2.1, E.2.2.2.1, by rw [Sb, List.map_append]; exact E.2.2.2.2.1, E.2.2.2.2.2⟩
end Go.Proofs.YtofccgkgjcnfbaaDoor.W1
namespace Go.Proofs.YtofccgkgjcnfbaaDoor.W1
open Go.RowKit Wr Sh
set_option maxRecDepth 100000
set_option linter.unusedVariables false
theorem Blk.at_ {w : World} {g : Nat} {t : TypeId} {cs : List Value} (h : w.heap.size = g) : Blk (w.alloc (.cells cs.toArray t)) g t cs := h ▸ Blk.new w t cs
theorem own_mono {w : World} {base base2 e size n : Nat} {v : Value} {xs : List Value} (h : w.ownsRow base e size v n xs) (hb : base2 ≤ base) : w.ownsRow base2 e size v n xs := by
 obtain ⟨h1, h2⟩ := h
 refine ⟨h1, ?_⟩
 rcases h2 with h2 | ⟨g, cap, cur, hv, hg, hh, r⟩
 ·
  exact Or.inl h2
 ·
  exact Or.inr ⟨g, cap, cur, hv, Nat.le_trans hb hg, hh, r⟩
set_option maxRecDepth 100000 in
set_option maxHeartbeats 1000000 in
theorem getList_int (A : Option Addr) (b : List UInt8) (c : Nat) (w : World) (hr : Rd w w.heap.size A (B8 b)) (hc : b.length ≤ c) (hl : b.length ≤ 1073741824) :
  Calls Tryd.prog 89 #[.slice A b.length c, .int .i64 1, .func (.func 90) #[] #[]] w fun e w' => ∃ v', e = .returned (.tuple #[v', .int .i64 ((decInts b).2.1 : Nat), .int .i64 ((decInts b).2.2 : Nat)]) ∧
   w'.ownsRow w.heap.size 3 1 v' (decInts b).1.length (I64 (decInts b).1) ∧ Below w.heap.size w w' := by
 have hcall : ∀ W : World, Below w.heap.size w W → Calls Tryd.prog 106 #[.slice A b.length c, .int .i64 1] W fun e w' => e = .returned (.tuple #[.int .i64 ((decLen 1 b).1 : Nat), .int .i64 ((decLen 1 b).2.1 : Nat), .int .i64 ((decLen 1 b).2.2 : Nat)]) ∧ W = w' :=
  fun W hW => getLength_any A b c 1 W w.heap.size (hr.below hW) hc (by omega) (by omega) (by omega)
 have hdef : decInts b = if (decLen 1 b).2.2 ≠ 0 then ([], 0, (decLen 1 b).2.2) else decGo decInt b (decLen 1 b).1 (decLen 1 b).2.1 [] := rfl
 rcases hd : decLen 1 b with ⟨n, u, er⟩
 rw [hd] at hdef
 simp only [hd] at hcall
 have HC := Lh hcall
 clear hcall
 by_cases he : er = 0
 ·
  subst he
  obtain ⟨b1, b2, b3, b4, b5⟩ := decLen_ok hd
  have hu := enc_le (n : Int)
  rw [← b3] at hu
  simp only [ne_eq, not_true_eq_false, if_false] at hdef
  rw [hdef]
  have hn : n ≤ b.length := Nat.le_trans b4 (Nat.le_trans (Nat.div_le_self _ _) (Nat.sub_le _ _))
  skip
  clear hd b2 b3 hdef b4
  obtain ⟨H, hH⟩ : ∃ H, H = w.heap.size := ⟨_, rfl⟩
  have HH := Lh hH
  clear hH
  obtain ⟨L, hL⟩ : ∃ L, L = b.length := ⟨_, rfl⟩
  have HL := Lh hL
  clear hL
  go_enter Tryd.func89, Tryd.ntmps89
  go_wp2_with (go_at_call 106; refine (HC.out _ (((Below.refl _ _).alloc (Nat.le_refl _) _).alloc (by simp) _)).mono ?_; rintro e w' ⟨rfl, rfl⟩)
  go_loopw [27] (fun s27 wr => ∃ (k at_ : Nat) (acc : List Int) (v : Value), k ≤ n ∧ s27 = .int .i64 k ∧ acc.length = k ∧ at_ ≤ b.length ∧  decGo decInt b (n - k) at_ acc = decGo decInt b n u [] ∧
    Blk wr (w.heap.size + 1) 134 [.func (.func 90) #[] #[]] ∧ Blk wr w.heap.size 39 [.slice A b.length c] ∧ Blk wr (w.heap.size + 2) 3 [.int .i64 at_] ∧ Blk wr (w.heap.size + 3) 22 [v] ∧
    wr.ownsRow (w.heap.size + 4) 3 1 v k (I64 acc) ∧ Below w.heap.size w wr ∧ w.heap.size + 4 ≤ wr.heap.size)
   (fun s27 _ => n - (intOf s27).toNat)
  case atStart =>
   exact ⟨0, u, [], .slice none 0 0, Nat.zero_le _, rfl, rfl, b1,  rfl, ((Blk.at_ (by simp)).alloc _).alloc _, (((Blk.at_ rfl).alloc _).alloc _).alloc _, (Blk.at_ (by simp)).alloc _, Blk.at_ (by simp),
    World.ownsRow_nil _ _ _ _, (((((Below.refl _ _).alloc (Nat.le_refl _) _).alloc (by simp) _).alloc (by simp; omega) _).alloc (by simp; omega) _), by simp⟩
  case round =>
   obtain ⟨k, at_, acc, v, hk, rfl, hacc, hat,  hgo, k0, k1, k2, k3, hown, hbel, hsz⟩ := hrel
   have Hgo := Lh hgo
   have Hacc := Lh hacc
   clear hgo hacc
   by_cases hlt : k < n
   ·
    have hn1 := next_int (w.heap.size + 1) w.heap.size (w.heap.size + 2) (w.heap.size + 3) (w.heap.size + 4) w.heap.size A b c at_ k v acc wr k0 k1 k2 k3 (hr.below hbel) hc (by omega) hat hown (by omega) hsz (by omega) (by omega) (by omega) (by omega) (by omega) (by omega) (by omega) (by omega) (by omega) (by omega) (by omega) (by omega) (by omega)
    have hs : decGo decInt b (n - k) at_ acc = if (decInt (b.drop at_)).2.2 ≠ 0 then ([], 0, (decInt (b.drop at_)).2.2) else decGo decInt b (n - (k + 1)) (at_ + (decInt (b.drop at_)).2.1) (acc ++ [(decInt (b.drop at_)).1]) := by
     rw [show n - k = (n - (k + 1)) + 1 by omega]; rfl
    rw [Hgo.out] at hs
    have hle := decInt_le (b.drop at_)
    rcases hd2 : decInt (b.drop at_) with ⟨x, m, er⟩
    rw [hd2] at hs hle
    rw [hd2] at hn1
    simp only [List.length_drop] at hn1 hs hle
    have HN := Lh hn1
    clear hn1 hd2 k0 k1 k2 k3
    by_cases he : er = 0
    ·
     subst he
     simp only [ne_eq, not_true_eq_false, if_false] at hs
     have HS := Lh hs
     clear hs
     go_wp2_with (go_at_call 107; refine HN.out.mono ?_; rintro e w2 ⟨v2, rfl, j0, j1, j2, j3, ho2, hb2⟩)
     go_roundw
     case rel => exact ⟨k + 1, at_ + m, acc ++ [x], v2, hlt, by go_num, by rw [List.length_append, Hacc.out]; rfl, by omega,  HS.out.symm, j0, j1, j2, j3, ho2, hbel.trans hb2, Nat.le_trans hsz hb2.size⟩
     case measure => simp only [intOf]; omega
    ·
     have hb := errB er he
     rw [if_pos he] at hs
     have HS := Lh hs
     clear hs
     go_wp2_with (go_at_call 107; refine HN.out.mono ?_; rintro e w2 ⟨v2, rfl, j0, j1, j2, j3, ho2, hb2⟩)
     go_ret3
     rw [HS.out]
     exact ⟨_, rfl, World.ownsRow_nil _ _ _ _, hbel.trans hb2⟩
   ·
    obtain rfl : k = n := by omega
    have c2 : wr.cell? ⟨w.heap.size + 2, 0, none⟩ = some (.int .i64 at_) := k2.cell 0
    have c3 : wr.cell? ⟨w.heap.size + 3, 0, none⟩ = some v := k3.cell 0
    have hs : decGo decInt b k u [] = (acc, at_, 0) := by rw [← Hgo.out, Nat.sub_self]; rfl
    have HS := Lh hs
    clear hs
    go_wp2_with fail
    go_quiet (fail)
    go_wp2_with fail
    go_ret3
    rw [HS.out]
    exact ⟨v, rfl, by rw [Hacc.out]; exact own_mono hown (by omega), ⟨hbel.os, hbel.tape, hbel.output, hbel.size, hbel.block⟩⟩
 ·
  have hb := errB er he
  rw [if_pos he] at hdef
  rw [hdef]
  clear hdef hd
  go_enter Tryd.func89, Tryd.ntmps89
  go_wp2_with (go_at_call 106; refine (HC.out _ (((Below.refl _ _).alloc (Nat.le_refl _) _).alloc (by simp) _)).mono ?_; rintro e w' ⟨rfl, rfl⟩)
  go_ret3
  exact ⟨_, rfl, World.ownsRow_nil _ _ _ _, ((((Below.refl _ _).alloc (Nat.le_refl _) _).alloc (by simp) _).alloc (by simp; omega) _)⟩
set_option maxRecDepth 100000 in
set_option maxHeartbeats 1000000 in
theorem getList_str (A : Option Addr) (b : List UInt8) (c : Nat) (w : World) (hr : Rd w w.heap.size A (B8 b)) (hc : b.length ≤ c) (hl : b.length ≤ 1073741824) :
  Calls Tryd.prog 91 #[.slice A b.length c, .int .i64 1, .func (.func 92) #[] #[]] w fun e w' => ∃ v', e = .returned (.tuple #[v', .int .i64 ((decStrs b).2.1 : Nat), .int .i64 ((decStrs b).2.2 : Nat)]) ∧
   w'.ownsRow w.heap.size 9 1 v' (decStrs b).1.length (Sb (decStrs b).1) ∧ Below w.heap.size w w' := by
 have hcall : ∀ W : World, Below w.heap.size w W → Calls Tryd.prog 106 #[.slice A b.length c, .int .i64 1] W fun e w' => e = .returned (.tuple #[.int .i64 ((decLen 1 b).1 : Nat), .int .i64 ((decLen 1 b).2.1 : Nat), .int .i64 ((decLen 1 b).2.2 : Nat)]) ∧ W = w' :=
  fun W hW => getLength_any A b c 1 W w.heap.size (hr.below hW) hc (by omega) (by omega) (by omega)
 have hdef : decStrs b = if (decLen 1 b).2.2 ≠ 0 then ([], 0, (decLen 1 b).2.2) else decGo decStr b (decLen 1 b).1 (decLen 1 b).2.1 [] := rfl
 rcases hd : decLen 1 b with ⟨n, u, er⟩
 rw [hd] at hdef
 simp only [hd] at hcall
 have HC := Lh hcall
 clear hcall
 by_cases he : er = 0
 ·
  subst he
  obtain ⟨b1, b2, b3, b4, b5⟩ := decLen_ok hd
  have hu := enc_le (n : Int)
  rw [← b3] at hu
  simp only [ne_eq, not_true_eq_false, if_false] at hdef
  rw [hdef]
  have hn : n ≤ b.length := Nat.le_trans b4 (Nat.le_trans (Nat.div_le_self _ _) (Nat.sub_le _ _))
  skip
  clear hd b2 b3 hdef b4
  obtain ⟨H, hH⟩ : ∃ H, H = w.heap.size := ⟨_, rfl⟩
  have HH := Lh hH
  clear hH
  obtain ⟨L, hL⟩ : ∃ L, L = b.length := ⟨_, rfl⟩
  have HL := Lh hL
  clear hL
  go_enter Tryd.func91, Tryd.ntmps91
  go_wp2_with (go_at_call 106; refine (HC.out _ (((Below.refl _ _).alloc (Nat.le_refl _) _).alloc (by simp) _)).mono ?_; rintro e w' ⟨rfl, rfl⟩)
  go_loopw [27] (fun s27 wr => ∃ (k at_ : Nat) (acc : List (List UInt8)) (v : Value), k ≤ n ∧ s27 = .int .i64 k ∧ acc.length = k ∧ at_ ≤ b.length ∧  decGo decStr b (n - k) at_ acc = decGo decStr b n u [] ∧
    Blk wr (w.heap.size + 1) 136 [.func (.func 92) #[] #[]] ∧ Blk wr w.heap.size 39 [.slice A b.length c] ∧ Blk wr (w.heap.size + 2) 3 [.int .i64 at_] ∧ Blk wr (w.heap.size + 3) 47 [v] ∧
    wr.ownsRow (w.heap.size + 4) 9 1 v k (Sb acc) ∧ Below w.heap.size w wr ∧ w.heap.size + 4 ≤ wr.heap.size)
   (fun s27 _ => n - (intOf s27).toNat)
  case atStart =>
   exact ⟨0, u, [], .slice none 0 0, Nat.zero_le _, rfl, rfl, b1,  rfl, ((Blk.at_ (by simp)).alloc _).alloc _, (((Blk.at_ rfl).alloc _).alloc _).alloc _, (Blk.at_ (by simp)).alloc _, Blk.at_ (by simp),
    World.ownsRow_nil _ _ _ _, (((((Below.refl _ _).alloc (Nat.le_refl _) _).alloc (by simp) _).alloc (by simp; omega) _).alloc (by simp; omega) _), by simp⟩
  case round =>
   obtain ⟨k, at_, acc, v, hk, rfl, hacc, hat,  hgo, k0, k1, k2, k3, hown, hbel, hsz⟩ := hrel
   have Hgo := Lh hgo
   have Hacc := Lh hacc
   clear hgo hacc
   by_cases hlt : k < n
   ·
    have hn1 := next_str (w.heap.size + 1) w.heap.size (w.heap.size + 2) (w.heap.size + 3) (w.heap.size + 4) w.heap.size A b c at_ k v acc wr k0 k1 k2 k3 (hr.below hbel) hc (by omega) hat hown (by omega) hsz (by omega) (by omega) (by omega) (by omega) (by omega) (by omega) (by omega) (by omega) (by omega) (by omega) (by omega) (by omega) (by omega)
    have hs : decGo decStr b (n - k) at_ acc = if (decStr (b.drop at_)).2.2 ≠ 0 then ([], 0, (decStr (b.drop at_)).2.2) else decGo decStr b (n - (k + 1)) (at_ + (decStr (b.drop at_)).2.1) (acc ++ [(decStr (b.drop at_)).1]) := by
     rw [show n - k = (n - (k + 1)) + 1 by omega]; rfl
    rw [Hgo.out] at hs
    have hle := decStr_le (b.drop at_)
    rcases hd2 : decStr (b.drop at_) with ⟨x, m, er⟩
    rw [hd2] at hs hle
    rw [hd2] at hn1
    simp only [List.length_drop] at hn1 hs hle
    have HN := Lh hn1
    clear hn1 hd2 k0 k1 k2 k3
    by_cases he : er = 0
    ·
     subst he
     simp only [ne_eq, not_true_eq_false, if_false] at hs
     have HS := Lh hs
     clear hs
     go_wp2_with (go_at_call 108; refine HN.out.mono ?_; rintro e w2 ⟨v2, rfl, j0, j1, j2, j3, ho2, hb2⟩)
     go_roundw
     case rel => exact ⟨k + 1, at_ + m, acc ++ [x], v2, hlt, by go_num, by rw [List.length_append, Hacc.out]; rfl, by omega,  HS.out.symm, j0, j1, j2, j3, ho2, hbel.trans hb2, Nat.le_trans hsz hb2.size⟩
     case measure => simp only [intOf]; omega
    ·
     have hb := errB er he
     rw [if_pos he] at hs
     have HS := Lh hs
     clear hs
     go_wp2_with (go_at_call 108; refine HN.out.mono ?_; rintro e w2 ⟨v2, rfl, j0, j1, j2, j3, ho2, hb2⟩)
     go_ret3
     rw [HS.out]
     exact ⟨_, rfl, World.ownsRow_nil _ _ _ _, hbel.trans hb2⟩
   ·
    obtain rfl : k = n := by omega
    have c2 : wr.cell? ⟨w.heap.size + 2, 0, none⟩ = some (.int .i64 at_) := k2.cell 0
    have c3 : wr.cell? ⟨w.heap.size + 3, 0, none⟩ = some v := k3.cell 0
    have hs : decGo decStr b k u [] = (acc, at_, 0) := by rw [← Hgo.out, Nat.sub_self]; rfl
    have HS := Lh hs
    clear hs
    go_wp2_with fail
    go_quiet (fail)
    go_wp2_with fail
    go_ret3
    rw [HS.out]
    exact ⟨v, rfl, by rw [Hacc.out]; exact own_mono hown (by omega), ⟨hbel.os, hbel.tape, hbel.output, hbel.size, hbel.block⟩⟩
 ·
  have hb := errB er he
  rw [if_pos he] at hdef
  rw [hdef]
  clear hdef hd
  go_enter Tryd.func91, Tryd.ntmps91
  go_wp2_with (go_at_call 106; refine (HC.out _ (((Below.refl _ _).alloc (Nat.le_refl _) _).alloc (by simp) _)).mono ?_; rintro e w' ⟨rfl, rfl⟩)
  go_ret3
  exact ⟨_, rfl, World.ownsRow_nil _ _ _ _, ((((Below.refl _ _).alloc (Nat.le_refl _) _).alloc (by simp) _).alloc (by simp; omega) _)⟩
end Go.Proofs.YtofccgkgjcnfbaaDoor.W1
namespace Go.Proofs.YtofccgkgjcnfbaaDoor.W1
open Go.RowKit Wr Sh
set_option maxRecDepth 100000
set_option linter.unusedVariables false
set_option maxRecDepth 100000 in
set_option maxHeartbeats 400000 in
theorem getDigest_any (A : Option Addr) (b : List UInt8) (c : Nat) (w : World) (B : Nat) (hr : Rd w B A (B8 b)) (hB : B ≤ w.heap.size) (hc : b.length ≤ c) (h16 : 16 ≤ b.length) :
  Calls Tryd.prog 94 #[.slice A b.length c] w fun e w' => e = .returned (.tuple #[.agg (B8 (b.take 16)).toArray, .int .i64 16, .int .i64 0]) ∧ Below w.heap.size w w' := by
 obtain ⟨g, o, rfl, hg, hcell⟩ := hr (by intro e; have := congrArg List.length e; simp only [B8, List.length_map, List.length_nil] at this; omega)
 have ht : (b.take 16).length = 16 := by simp; omega
 have hcj : ∀ O : Obj, ∀ i u, (B8 (b.take 16))[i]? = some u → (w.alloc O).cell? ((⟨g, o, none⟩ : Addr).add i) = some u := fun O i u hu => by
  have hi : i < (b.take 16).length := by have := (List.getElem?_eq_some_iff.1 hu).1; simpa [B8] using this
  rw [Addr.add_lit, World.cell?_alloc_lt _ _ _ (by simp; omega)]
  refine hcell i u ?_
  rw [B8_get _ _ hi] at hu
  rw [B8_get _ _ (by omega), ← hu]
  simp
 have HC := Lib.hid hcj
 clear hcell hcj hr
 have hlb : b.length = b.length := rfl
 obtain ⟨N, hN⟩ : ∃ N, N = b.length := ⟨_, rfl⟩
 rw [← hN] at hc h16 ⊢
 clear hN hlb
 have Hnew := Lib.hid (fun (old : Array Value) => heap_setRow (w.alloc (.cells old 29)) w.heap.size (B8 (b.take 16)).toArray old 29 (heap_alloc_new w _))
 have Hbel := Lib.hid (fun (O : Obj) => belowRow ((Below.refl w.heap.size w).alloc (Nat.le_refl _) O) (Nat.le_refl _) (B8 (b.take 16)).toArray)
 have hat : ∀ W : World, (Instr.arrayAt 29 (.slice (some ⟨g, o, none⟩) 16 c)).run Tryd.prog W = .ok (.pointer (some ⟨g, o, none⟩)) W := fun W => run_arrayAt W 29 5 16 _ 16 c Tryd.underlying29 (by omega)
 go_enter Tryd.func94, Tryd.ntmps94
 go_wp2_with (first
    | (with_reducible refine wpList_load_at rfl 29 (.tmp 7) rfl ⟨g, o, none⟩ rfl (B8 (b.take 16)) (.array 16 5) (HC.out _) Tryd.underlying29 rfl (size57 _ ht) ?_)
    | (with_reducible refine wpList_store_row rfl 29 (.tmp 2) (.tmp 8) rfl w.heap.size (B8 (b.take 16)).toArray rfl rfl 29 _ (heap_alloc_new w _) (size57' _ ht) (by simp [B8_len, -List.length_take, ht]) (one57 _) ?_))
 refine bodyPost_ret (v := .tuple #[.agg (B8 (b.take 16)).toArray, .int .i64 16, .int .i64 0]) ?_ rfl ⟨rfl, Hbel.out _⟩
 have hl := run_loadVar_row (P := Tryd.prog) _ w.heap.size 29 29 (B8 (b.take 16)).toArray (0, 0) (.array 16 5) (Hnew.out #[.int .u8 0, .int .u8 0, .int .u8 0, .int .u8 0, .int .u8 0, .int .u8 0, .int .u8 0, .int .u8 0, .int .u8 0, .int .u8 0, .int .u8 0, .int .u8 0, .int .u8 0, .int .u8 0, .int .u8 0, .int .u8 0]) Tryd.underlying29 rfl (size57' _ ht)
 simp [results, asAddr, hl]
end Go.Proofs.YtofccgkgjcnfbaaDoor.W1
