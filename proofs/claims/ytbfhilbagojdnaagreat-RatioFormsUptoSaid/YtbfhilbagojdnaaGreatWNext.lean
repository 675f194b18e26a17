/-
  The contracts of the closures that decode an element of a list, at integers, byte strings and digests.
  Conditions: the captured variables lie in blocks of their own, the list that is built is of the call's own making.
-/
import Derived.Test.YtbfhilbagojdnaaGreatWLen
import Derived.Test.YtbfhilbagojdnaaGreatWPut
import Derived.Deep.RegionHeld3
import Derived.Deep.RegionLaw
import Derived.Deep.AppendLies
import Derived.BigQuiet
namespace Go.Proofs.YtbfhilbagojdnaaGreat.W1
open Go.RowKit Go.Proofs.YtbfhilbagojdnaaGreat.Wr Go.Proofs.YtbfhilbagojdnaaGreat.W1.Wr
set_option linter.unusedVariables false
set_option maxRecDepth 100000
theorem Tryz.info3 : (Tryz.prog.info? 3).map (fun i => (i.zero, i.size, i.bytes)) = some (some (.int .i64 0), 1, 8) := by kernel_rfl

/-- What a round of a closure leaves: the list's variable and the place's variable are written, all else stands. -/
theorem next_end {g0 g1 g2 g3 base B0 k gg cap tv e size : Nat} {V0 V1 V2 V3 V4 v : Value} {ys ns news : List Value} {w W w1 : World} {t0 t1 t2 t3 : TypeId}
    (k0 : Blk W g0 t0 [V0]) (k1 : Blk W g1 t1 [V1]) (k2 : Blk W g2 t2 [V2]) (k3 : Blk W g3 t3 [V3]) (hbel : Below B0 w W)
    (hown' : W.ownsRow base e size v k ys) (hg0 : g0 < base) (hg1 : g1 < base) (hg2 : g2 < base) (hg3 : g3 < base) (h23 : g2 ≠ g3) (h02 : g0 ≠ g2) (h03 : g0 ≠ g3) (h12 : g1 ≠ g2) (h13 : g1 ≠ g3)
    (hB0 : B0 ≤ g0) (hB1 : B0 ≤ g1) (hB2 : B0 ≤ g2) (hB3 : B0 ≤ g3)
    (hown1 : w1.ownsRow base e size (.slice (some ⟨gg, 0, none⟩) (k + 1) cap) (k + 1) (ys ++ news)) (hgrow0 : (W.alloc (.cells ns.toArray tv)).drew.grownBy w1 v.ownBlock) :
    Blk ((w1.setCell ⟨g3, 0, none⟩ (.slice (some ⟨gg, 0, none⟩) (k + 1) cap)).setCell ⟨g2, 0, none⟩ V4) g0 t0 [V0] ∧
    Blk ((w1.setCell ⟨g3, 0, none⟩ (.slice (some ⟨gg, 0, none⟩) (k + 1) cap)).setCell ⟨g2, 0, none⟩ V4) g1 t1 [V1] ∧
    Blk ((w1.setCell ⟨g3, 0, none⟩ (.slice (some ⟨gg, 0, none⟩) (k + 1) cap)).setCell ⟨g2, 0, none⟩ V4) g2 t2 [V4] ∧
    Blk ((w1.setCell ⟨g3, 0, none⟩ (.slice (some ⟨gg, 0, none⟩) (k + 1) cap)).setCell ⟨g2, 0, none⟩ V4) g3 t3 [.slice (some ⟨gg, 0, none⟩) (k + 1) cap] ∧
    ((w1.setCell ⟨g3, 0, none⟩ (.slice (some ⟨gg, 0, none⟩) (k + 1) cap)).setCell ⟨g2, 0, none⟩ V4).ownsRow base e size (.slice (some ⟨gg, 0, none⟩) (k + 1) cap) (k + 1) (ys ++ news) ∧
    Below B0 w ((w1.setCell ⟨g3, 0, none⟩ (.slice (some ⟨gg, 0, none⟩) (k + 1) cap)).setCell ⟨g2, 0, none⟩ V4) := by
  have hgrow : (W.alloc (.cells ns.toArray tv)).grownBy w1 v.ownBlock := ⟨hgrow0.os, hgrow0.tape, hgrow0.output, hgrow0.size, hgrow0.block⟩
  have hne : ∀ g, g < base → some g ≠ v.ownBlock := fun g hg e => by have := (hown'.lt _ e.symm).1; omega
  have l0 := k0.lt
  have a0 := (k0.alloc (.cells ns.toArray tv)).grown hgrow (hne g0 hg0)
  have a1 := (k1.alloc (.cells ns.toArray tv)).grown hgrow (hne g1 hg1)
  have a2 := (k2.alloc (.cells ns.toArray tv)).grown hgrow (hne g2 hg2)
  have a3 := (k3.alloc (.cells ns.toArray tv)).grown hgrow (hne g3 hg3)
  refine ⟨?_, ?_, ?_, ?_, ?_, ?_⟩
  · exact (a0.far (p := ⟨g3, 0, none⟩) h03 _).far (p := ⟨g2, 0, none⟩) h02 _
  · exact (a1.far (p := ⟨g3, 0, none⟩) h13 _).far (p := ⟨g2, 0, none⟩) h12 _
  · exact (a2.far (p := ⟨g3, 0, none⟩) h23 _).put 0 _
  · exact (a3.put 0 _).far (p := ⟨g2, 0, none⟩) (Ne.symm h23) _
  · exact ownsRow_setCell_below (ownsRow_setCell_below hown1 (a := ⟨g3, 0, none⟩) hg3 _) (a := ⟨g2, 0, none⟩) hg2 _
  · exact ((hbel.trans ((Below.refl B0 W).alloc (by omega) _)).grown hgrow (by simp; omega) (fun q hq => by have := (hown'.lt q hq).1; omega)).setCell (p := ⟨g3, 0, none⟩) hB3 _ |>.setCell (p := ⟨g2, 0, none⟩) hB2 _

set_option maxRecDepth 100000 in
set_option maxHeartbeats 1000000 in
theorem next_int (g0 g1 g2 g3 base B0 : Nat) (A : Option Addr) (b : List UInt8) (c used k : Nat) (v : Value) (xs : List Int) (w : World)
    (h0 : Blk w g0 111 [.func (.func 120) #[] #[]]) (h1 : Blk w g1 38 [.slice A b.length c]) (h2 : Blk w g2 3 [.int .i64 used]) (h3 : Blk w g3 50 [v])
    (hr : Rd w B0 A (B8 b)) (hc : b.length ≤ c) (hl : b.length ≤ 1099511627776) (hu : used ≤ b.length)
    (hown : w.ownsRow base 3 1 v k (I64 xs)) (hk : k ≤ 1099511627776) (hbase : base ≤ w.heap.size) (hg0 : g0 < base) (hg1 : g1 < base) (hg2 : g2 < base) (hg3 : g3 < base) (h23 : g2 ≠ g3) (h02 : g0 ≠ g2) (h03 : g0 ≠ g3) (h12 : g1 ≠ g2) (h13 : g1 ≠ g3)
    (hB0 : B0 ≤ g0) (hB1 : B0 ≤ g1) (hB2 : B0 ≤ g2) (hB3 : B0 ≤ g3) :
    Calls Tryz.prog 134 #[.pointer (some ⟨g0, 0, none⟩), .pointer (some ⟨g1, 0, none⟩), .pointer (some ⟨g2, 0, none⟩), .pointer (some ⟨g3, 0, none⟩)] w fun e w' =>
      ∃ v', e = .returned (.int .i64 ((decInt (b.drop used)).2.2 : Nat)) ∧ Blk w' g0 111 [.func (.func 120) #[] #[]] ∧ Blk w' g1 38 [.slice A b.length c] ∧ Blk w' g2 3 [.int .i64 ((used + (decInt (b.drop used)).2.1 : Nat) : Int)] ∧ Blk w' g3 50 [v'] ∧
        w'.ownsRow base 3 1 v' (k + 1) (I64 (xs ++ [(decInt (b.drop used)).1])) ∧ Below B0 w w' := by
  obtain ⟨i0, hi0, hz0, hz1, hz2⟩ := info_parts Tryz.info3
  have c0 := h0.cell 0
  have c1 := h1.cell 0
  have c2 := h2.cell 0
  have c3 := h3.cell 0
  simp only [List.getElem?_cons_zero] at c0 c1 c2 c3
  have hlen : (b.drop used).length = b.length - used := by simp
  have hsl : ∀ W : World, (Instr.sliceAt 38 (.slice A b.length c) (some (.int .i64 (used : Int))) none none).run Tryz.prog W = .ok (.slice (if c = used then A else A.map (·.add used)) (b.length - used) (c - used)) W := by
    intro W
    have hu : Tryz.prog.underlying 38 = some (.slice (Tryz.prog.elem 38)) := by kernel_rfl
    have he : Tryz.prog.elem 38 = 5 := by kernel_rfl
    have h5 : (sizeOf 5).run Tryz.prog W = .ok 1 W := by kernel_rfl
    rw [run_sliceAt_slice W 38 _ _ _ _ hu, run_slice_l W 38 A b.length c hu .i64 used (by omega) (by omega), he, h5]
    simp [Result.andThen, sliced]
  have hrc := hr.cut used c (by rw [B8_len]; omega) (by rw [B8_len]; omega)
  have hdr : (B8 b).drop used = B8 (b.drop used) := by simp [B8]
  rw [hdr] at hrc
  obtain ⟨A', hA'⟩ : ∃ A', A' = (if c = used then A else A.map (·.add used)) := ⟨_, rfl⟩
  rw [← hA'] at hrc hsl
  have hcall : ∀ W : World, Rd W B0 A' (B8 (b.drop used)) → Calls Tryz.prog 120 #[.slice A' (b.length - used) (c - used)] W fun e w' => e = .returned (.tuple #[.int .i64 (decInt (b.drop used)).1, .int .i64 ((decInt (b.drop used)).2.1 : Nat), .int .i64 ((decInt (b.drop used)).2.2 : Nat)]) ∧ w' = W := by
    intro W hW
    have := getInt_any A' (b.drop used) (c - used) W B0 hW (by omega) (by omega)
    rw [hlen] at this
    exact this.mono fun e w' ⟨h1, h2⟩ => ⟨h1, h2.symm⟩
  have hu2 := decInt_le (b.drop used)
  rw [hlen] at hu2
  rcases hd : decInt (b.drop used) with ⟨n, u, er⟩
  rw [hd] at hcall hu2
  simp only at hcall hu2 ⊢
  have HC := Lib.hid hcall
  clear hcall hA' hd hlen hdr
  go_enter Tryz.func134, Tryz.ntmps134
  go_wp2_with fail
  go_quiet ((go_at_call 120; exact Calls.quiet_of_same (HC.out _ hrc)))
  go_wp2_with fail
  have k0 := h0.drewN nq
  have k1 := h1.drewN nq
  have k2 := h2.drewN nq
  have k3 := h3.drewN nq
  have hown' : (w.drewN nq).ownsRow base 3 1 v k (I64 xs) := hown
  have hbel : Below B0 w (w.drewN nq) := ⟨rfl, rfl, rfl, Nat.le_refl _, fun _ _ => rfl⟩
  have hbase' : base ≤ (w.drewN nq).heap.size := hbase
  clear h0 h1 h2 h3 hown hbase c0 c1 c2 c3 hsl HC hrc hr
  revert k0 k1 k2 k3 hown' hbel hbase'
  generalize w.drewN nq = W
  intro k0 k1 k2 k3 hown' hbel hbase'
  have c2 : W.cell? ⟨g2, 0, none⟩ = some (.int .i64 used) := k2.cell 0
  have c3 : W.cell? ⟨g3, 0, none⟩ = some v := k3.cell 0
  have hne2 : v.ownBlock ≠ some g2 := fun e => by have := (hown'.lt _ e).1; omega
  have hne3 : v.ownBlock ≠ some g3 := fun e => by have := (hown'.lt _ e).1; omega
  have l2 := k2.lt
  have l3 := k3.lt
  go_region_law
    ((refine step_append_lies _ (by rfl) _ _ _ (by rfl) base 3 i0 _ 1 8 Tryz.underlying50 hi0 hz0 hz1 hz2 rfl (by omega) v k (I64 xs) (by rfl) ((hown'.alloc _).drew)
        ⟨W.heap.size, 0, none⟩ 1 1 [.int .i64 n] (by rfl) (by rfl) (World.news_of_block (cs := #[.int .i64 n]) (t := 3) (fr := (0, 0)) (heap_alloc_new W _)) (by simp [Value.oneCell'])
        (by omega) (by unfold maxLen; omega) (by omega) (by simp; omega) (W.heap.size + 1) (by simp) ?_; intro gg cap w1 hown1 hgrow hat hlt; have e3 : w1.cell? ⟨g3, 0, none⟩ = some v := (by rw [hgrow.cell_far _ (by simp; omega) (Ne.symm hne3)]; simpa using (k3.alloc _).cell 0); have e2 : w1.cell? ⟨g2, 0, none⟩ = some (.int .i64 used) := (by rw [hgrow.cell_far _ (by simp; omega) (Ne.symm hne2)]; simpa using (k2.alloc _).cell 0); have f3 : w1.frozen? ⟨g3, 0, none⟩ = false := (by rw [hgrow.frozen_far _ (by simp; omega) (Ne.symm hne3)]; exact (k3.alloc _).frozen 0); have f2 : w1.frozen? ⟨g2, 0, none⟩ = false := (by rw [hgrow.frozen_far _ (by simp; omega) (Ne.symm hne2)]; exact (k2.alloc _).frozen 0)))
  all_goals
    go_wp2
    go_ret
    have hw : IntKind.i64.wrap ((used : Int) + (u : Int)) = ((used + u : Nat) : Int) := by rw [IntKind.wrap_i64]; omega
    have E := next_end (V4 := .int .i64 (IntKind.i64.wrap ((used : Int) + (u : Int)))) k0 k1 k2 k3 hbel hown' hg0 hg1 hg2 hg3 h23 h02 h03 h12 h13 hB0 hB1 hB2 hB3 hown1 (ns := [.int .i64 n]) (tv := 3) hgrow
    exact ⟨_, rfl, E.1, E.2.1, by rw [← hw]; exact E.2.2.1, E.2.2.2.1, by rw [I64, List.map_append]; exact E.2.2.2.2.1, E.2.2.2.2.2⟩
end Go.Proofs.YtbfhilbagojdnaaGreat.W1
