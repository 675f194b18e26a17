/-
  Contracts and words of several parts of the program (Ps, Pu), one after the other.
  Conditions: those that each says.
-/
import Derived.Test.YtpbhgebblpdmnaaDoorGRnPlPnPq
import Derived.Orders
namespace Go.Proofs.YtpbhgebblpdmnaaDoor
open Go.RowKit Wr Src
set_option linter.unusedVariables false
set_option maxRecDepth 100000
section
variable {B : Nat} {w : World} {g : Nat} {T : Str} {E : Nat} {s : St}
theorem sv_one {ps : Str} {i : Nat} {c : UInt8} (hi : ps[i]? = some c) : (⟨ps.toArray⟩ : ByteArray).extract i (i + 1) = ⟨[c].toArray⟩ := by
 apply ByteArray.ext
 rw [ByteArray.data_extract]
 obtain ⟨h1, h2⟩ := List.getElem?_eq_some_iff.1 hi
 simp only [List.extract_toArray, List.extract_eq_take_drop]
 rw [show i + 1 - i = 1 by omega, List.drop_eq_getElem_cons h1, h2]; rfl
def partBytes : Str := [110, 108, 100, 122, 69, 66, 76, 80, 79, 73, 83]
theorem not_part {c : UInt8} (hc : c ∉ partBytes) (k : Nat) (hk : k < 256) (h : (UInt8.ofNat k) ∈ partBytes) : (((c.toNat : Nat) : Int) == ((k : Nat) : Int)) = false := by
 rw [nat_beq, decide_eq_false_iff_not]
 intro e
 apply hc
 rw [← show UInt8.ofNat k = c from UInt8.toNat_inj.1 (by rw [UInt8.toNat_ofNat', ← e]; have := c.toNat_lt; omega)]
 exact h
set_option maxHeartbeats 4000000 in
theorem part_sign (h : RS B w g T E s) {nb : Nat} {m : Nd} (hp : PN w nb m) (hgn : g < nb) (wd ps : Str) (kd : Nat) (i : Nat) (c : UInt8) (hc : c ∉ partBytes) (hi : ps[i]? = some c) (hl : ps.length ≤ 100) : Calls Tryd.prog 52 #[pt g, pt nb, SV wd ps (Src.shape kd).low (Src.shape kd).high, nv i] w (PtOut B w g T E nb kd c m s 1) := by
 obtain ⟨hi1, hix⟩ := byte_ix hi
 have hsz : (⟨ps.toArray⟩ : ByteArray).size = ps.length := rfl
 have hiI : (i : Int) < (ps.length : Int) := by omega
 have hiJ : (i : Int) + 1 ≤ (ps.length : Int) := by omega
 have hlI : (ps.length : Int) ≤ 100 := by omega
 have HLO := Lib.hid (Eq.refl (Src.shape kd).low); have HHI := Lib.hid (Eq.refl (Src.shape kd).high)
 obtain ⟨lo, hlo⟩ : ∃ lo, lo = (Src.shape kd).low := ⟨_, rfl⟩
 obtain ⟨hi', hhi⟩ : ∃ lo, lo = (Src.shape kd).high := ⟨_, rfl⟩
 rw [← hlo, ← hhi]
 have HW := Lib.hid ((Below.refl w.heap.size w).alloc (Nat.le_refl _) (.cells [sv wd, sv ps, nv lo, nv hi'].toArray 82))
 change Hid (Below w.heap.size w (w.alloc (.cells #[sv wd, sv ps, nv lo, nv hi'] 82))) at HW
 have HX := Lib.hid (Blk.new w 82 [sv wd, sv ps, nv lo, nv hi'])
 change Hid (Blk (w.alloc (.cells #[sv wd, sv ps, nv lo, nv hi'] 82)) w.heap.size 82 [sv wd, sv ps, nv lo, nv hi']) at HX
 have HC := Lib.hid (expect_any (h.below HW.out) (t := [c]) (by simp))
 have HP := Lib.hid (hp.kp (Kp.of_below' (Z := fun _ => False) HW.out) (fun _ h => h.elim))
 have HGN := Lib.hid hgn
 have HEv := Lib.hid (pe_sign (kd := kd) (m := m) (s := s) hc)
 have HEx := Lib.hid (sv_one hi)
 have e1 := not_part hc 110 (by omega) (by decide); have e2 := not_part hc 108 (by omega) (by decide); have e3 := not_part hc 100 (by omega) (by decide); have e4 := not_part hc 122 (by omega) (by decide)
 have e5 := not_part hc 69 (by omega) (by decide); have e6 := not_part hc 66 (by omega) (by decide); have e7 := not_part hc 76 (by omega) (by decide); have e8 := not_part hc 80 (by omega) (by decide)
 have e9 := not_part hc 79 (by omega) (by decide); have e10 := not_part hc 73 (by omega) (by decide); have e11 := not_part hc 83 (by omega) (by decide)
 change (((c.toNat : Nat) : Int) == 110) = false at e1; change (((c.toNat : Nat) : Int) == 108) = false at e2; change (((c.toNat : Nat) : Int) == 100) = false at e3; change (((c.toNat : Nat) : Int) == 122) = false at e4
 change (((c.toNat : Nat) : Int) == 69) = false at e5; change (((c.toNat : Nat) : Int) == 66) = false at e6; change (((c.toNat : Nat) : Int) == 76) = false at e7; change (((c.toNat : Nat) : Int) == 80) = false at e8
 change (((c.toNat : Nat) : Int) == 79) = false at e9; change (((c.toNat : Nat) : Int) == 73) = false at e10; change (((c.toNat : Nat) : Int) == 83) = false at e11
 clear hp hgn hi h hlo hhi hi1 hl hc
 go_enter Tryd.func52, Tryd.ntmps52
 go_upto_region 1 with fail
 generalize w.alloc (.cells #[sv wd, sv ps, nv lo, nv hi'] 82) = w0 at HW HC HP HX ⊢
 obtain ⟨x0, x1, x2, x3⟩ : w0.cell? ⟨w.heap.size, 0, none⟩ = some (sv wd) ∧ w0.cell? ⟨w.heap.size, 1, none⟩ = some (sv ps) ∧ w0.cell? ⟨w.heap.size, 2, none⟩ = some (nv lo) ∧ w0.cell? ⟨w.heap.size, 3, none⟩ = some (nv hi') := ⟨HX.out.cell 0, HX.out.cell 1, HX.out.cell 2, HX.out.cell 3⟩
 go_wp2_with fail
 rw [HEx.out]
 refine HC.out.mono ?_
 rintro e w1 ⟨rfl, h1, k1⟩
 have K1 := Lib.hid ((Kp.of_below' HW.out).trans k1 (fun _ _ h => h))
 have P1 := Lib.hid (HP.out.kp k1 (fun j e => by have := HGN.out; omega))
 have R1 := Lib.hid h1
 clear h1 k1 x0 x1 x2 x3 HX
 go_wp2_with fail
 exact bodyPost_end (v := .tuple #[]) (res_none rfl _ _) rfl ⟨m, s.expect [c], rfl, HEv.out, R1.out, P1.out, K1.out.mono (fun k _ e => Or.inl e), mu_expect s (by simp), by have := mu_expect s (t := [c]) (by simp); omega⟩
end
end Go.Proofs.YtpbhgebblpdmnaaDoor
namespace Go.Proofs.YtpbhgebblpdmnaaDoor
open Go.RowKit Wr Src
set_option linter.unusedVariables false
set_option maxRecDepth 100000
theorem wpAny_held {P : Program} {md : Region.Mode} {ops : Array Oper} {Q : Exit → Act → World → Prop} {n : Nat} {l : Array Bool} {a : Act} {w : World}
  (h : ∀ G : Nat → Array Bool → Act → World → Prop, Hid (∀ n l a w, G n l a w = wpAny P md ops Q n l a w) → G n l a w) : wpAny P md ops Q n l a w := h (wpAny P md ops Q) (Lib.hid fun _ _ _ _ => rfl)
theorem setCell_comm (w : World) (p q : Addr) (u v : Value) (h : p.block ≠ q.block) : (w.setCell p u).setCell q v = (w.setCell q v).setCell p u := by
 unfold World.setCell
 simp only
 congr 1
 apply Array.ext_getElem?
 intro i
 simp only [Array.getElem?_modify]
 by_cases h1 : p.block = i
 ·
  by_cases h2 : q.block = i
  ·
   exact absurd (h1.trans h2.symm) h
  ·
   simp [h1, h2]
 ·
  by_cases h2 : q.block = i
  ·
   simp [h1, h2]
  ·
   simp [h1, h2]
theorem put4_comm (w : World) (g o b : Nat) (a1 a2 a3 a4 v : Value) (h : b ≠ g) : put4 (w.setCell ⟨b, 3, none⟩ v) g o a1 a2 a3 a4 = (put4 w g o a1 a2 a3 a4).setCell ⟨b, 3, none⟩ v := by
 unfold put4
 rw [setCell_comm w ⟨b, 3, none⟩ ⟨g, o, none⟩ v a1 h, setCell_comm _ ⟨b, 3, none⟩ ⟨g, o + 1, none⟩ v a2 h, setCell_comm _ ⟨b, 3, none⟩ ⟨g, o + 2, none⟩ v a3 h, setCell_comm _ ⟨b, 3, none⟩ ⟨g, o + 3, none⟩ v a4 h]
theorem push_final {B : Nat} {w W W1 : World} {g : Nat} {T : Str} {E : Nat} {s : St} {nb g2 cap : Nat} {mk mz : Int} {mt : Str} {v : Value} {l : List Nd} {xs : List Value} {n : Nd} {k z : Int} {t : Str} {v2 : Value}
  (hR : RS B W g T E s) (hgn : g < nb) (hb : Blk W nb 25 (NC mk mt mz v)) (hk : KR W nb v l xs) (hn : NV W (fun j => nb < j ∧ some j ≠ v.ownBlock) n (NC k t z v2)) (hl : l.length + 1 ≤ 8589934592)
  (hown : W1.ownsRow (nb + 2) 25 4 (.slice (some ⟨g2, 0, none⟩) (l.length + 1) cap) (l.length + 1) (xs ++ Z4)) (hgr : W.grownBy W1 v.ownBlock) (hat : v.ownBlock = some g2 ∨ g2 = W.heap.size) (hP : Kp (fun k => k = g ∨ k = nb ∨ nb + 2 ≤ k) w W) (hnb : w.heap.size ≤ W.heap.size) :
  RS B ((put4 W1 g2 (l.length * 4) (iv k) (sv t) (iv z) v2).setCell ⟨nb, 3, none⟩ (.slice (some ⟨g2, 0, none⟩) (l.length + 1) cap)) g T E s ∧
  Blk ((put4 W1 g2 (l.length * 4) (iv k) (sv t) (iv z) v2).setCell ⟨nb, 3, none⟩ (.slice (some ⟨g2, 0, none⟩) (l.length + 1) cap)) nb 25 (NC mk mt mz (.slice (some ⟨g2, 0, none⟩) (l.length + 1) cap)) ∧
  KR ((put4 W1 g2 (l.length * 4) (iv k) (sv t) (iv z) v2).setCell ⟨nb, 3, none⟩ (.slice (some ⟨g2, 0, none⟩) (l.length + 1) cap)) nb (.slice (some ⟨g2, 0, none⟩) (l.length + 1) cap) (l ++ [n]) (xs ++ NC k t z v2) ∧
  Kp (fun k => k = g ∨ k = nb ∨ nb + 2 ≤ k) w ((put4 W1 g2 (l.length * 4) (iv k) (sv t) (iv z) v2).setCell ⟨nb, 3, none⟩ (.slice (some ⟨g2, 0, none⟩) (l.length + 1) cap)) ∧
  nb < g2 ∧ (∀ j, j < 4 → ∃ u, W1.cell? ⟨g2, l.length * 4 + j, none⟩ = some u) ∧ (∀ j, W1.frozen? ⟨g2, j, none⟩ = false) ∧ Blk W1 nb 25 (NC mk mt mz v) := by
 obtain ⟨h1, h2, h3, h4, h5⟩ := hk.push hn hl hown hgr hat
 have hvb : ∀ j, some j = v.ownBlock → nb + 2 ≤ j := by
  intro j hj
  have := (hk.own.lt j hj.symm).1
  omega
 have k1 : Kp (fun k => nb + 2 ≤ k) W W1 := Kp.grown hgr (fun j _ e => hvb j e)
 have k2 := put4_kp W1 g2 (l.length * 4) (iv k) (sv t) (iv z) v2
 have k3 := Kp.setCell (Z := fun k => k = nb) (put4 W1 g2 (l.length * 4) (iv k) (sv t) (iv z) v2) ⟨nb, 3, none⟩ (.slice (some ⟨g2, 0, none⟩) (l.length + 1) cap) rfl
 have k12 : Kp (fun k => nb + 2 ≤ k) W (put4 W1 g2 (l.length * 4) (iv k) (sv t) (iv z) v2) := k1.trans k2 (fun k hk e => by rw [e]; exact h2)
 have k13 : Kp (fun k => k = nb ∨ nb + 2 ≤ k) W _ := (k12.mono (fun k _ e => Or.inr e)).trans k3 (fun k _ e => Or.inl e)
 refine ⟨hR.kp k13 (by omega) (fun k hk => by have := hR.hg; omega), ?_, ?_, hP.trans k13 (fun k _ e => Or.inr e), by omega, h4, h5, k1.blk hb (by omega)⟩
 ·
  exact (k12.blk hb (by omega)).put 3 _
 ·
  exact h1.kp k3 (fun j e => by omega)
theorem alloc_two {w : World} {nb : Nat} (h : nb < w.heap.size) (o : Obj) : nb + 2 ≤ (w.alloc o).heap.size := by
 have : (w.alloc o).heap.size = w.heap.size + 1 := by simp
 omega
theorem stmt_pos {s : St} (h : s.stmtHere ≠ -1) : 1 ≤ mu s := by
 refine mu_pos ?_
 intro e
 apply h
 unfold St.stmtHere
 rw [e, if_neg (by decide), if_neg (by decide)]
 rw [kindHere_eq, e, if_neg (by rintro ⟨h1, _⟩; exact absurd h1 (by decide))]
theorem wp_bs {P : Program} {o : Oper} {a : Act} {w w' : World} {K : Act → World → Prop} {Q : Exit → Act → World → Prop} {T : TypeId} {n : Nat} {xs : Array (Nat × Operand)} {vs : Array (Nat × Value)} {v : Value} (ho : o.op = .buildSlice T n xs) (hv : (xs.map fun (i, x) => (i, a.eval x)) = vs) (hr : (Instr.buildSlice T n vs).run P w = .ok v w') (hK : K (a.put o.dst v) w') : o.wp P a w K Q := by
 have h : (execOp a.eval o).run P w = .ok (.value v) w' := by
  unfold execOp
  simp [ho, hv, hr, Result.andThen]
 unfold Oper.wp
 rw [h]
 exact hK
theorem build23 (W : World) : (Instr.buildSlice 23 1 #[(0, ZN)]).run Tryd.prog W = .ok (.slice (some ⟨W.heap.size, 0, none⟩) 1 1) (W.alloc (.cells Z4.toArray 25)) := by kernel_rfl
theorem Z4_one : ∀ u ∈ Z4, u.oneCell' = true := by
 intro u hu
 unfold Z4 at hu
 simp only [List.mem_cons, List.not_mem_nil, or_false] at hu
 rcases hu with rfl | rfl | rfl | rfl <;> rfl
theorem kid_far {W W' : World} {g nb : Nat} {v : Value} {l : List Nd} {xs cs : List Value} {n : Nd} (hv : NV W' (fun j => W.heap.size ≤ j) n cs) (hk : KR W nb v l xs) (k : Kp (fun k => k = g) W W') (hb : nb < W.heap.size) : NV W' (fun j => nb < j ∧ some j ≠ v.ownBlock) n cs :=
 NV.keep (fun j h1 h2 => ⟨rfl, by omega, fun e => by have := (hk.own.lt j e.symm).2; omega⟩) n cs hv
theorem cell_other (w : World) (p q : Addr) (u : Value) (h : ¬ p.block = q.block) : (w.setCell p u).cell? q = w.cell? q := World.cell?_of_block (Below.heap_setCell w p u q.block (fun e => h e.symm))
theorem frozen_other (w : World) (p q : Addr) (u : Value) (h : ¬ p.block = q.block) : (w.setCell p u).frozen? q = w.frozen? q := World.frozen?_of_block (Below.heap_setCell w p u q.block (fun e => h e.symm))
end Go.Proofs.YtpbhgebblpdmnaaDoor
