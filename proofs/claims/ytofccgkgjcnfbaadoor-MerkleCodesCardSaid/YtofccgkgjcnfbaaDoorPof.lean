/-
  The contract of merkle's proofOf.
  Conditions: at most 2^30 leaves, keys and values of at most 2^30 bytes; the table of the round constants is as the text lays it.
-/
import Derived.Test.YtofccgkgjcnfbaaDoorZ
import Derived.Test.YtofccgkgjcnfbaaDoorMem2
set_option linter.unusedSimpArgs false
namespace Go.Proofs.YtofccgkgjcnfbaaDoor
open Go.RowKit Wr Sh
set_option linter.unusedVariables false
set_option maxRecDepth 100000
abbrev kPof_0 : Oper := { dst := some 22, op := Op.call { callee := Callee.builtin Builtin.append, args := #[Operand.const (Value.slice none 0 0), Operand.tmp 21], argTypes := #[33, 33] }, type := 33, pos := "merkle.go:191", after := #[dD 6], guard := none }
abbrev kPof_1 : Oper := { dst := some 7, op := Op.alloc 50, type := 0, pos := "merkle.go:191", after := #[], guard := none }
abbrev kPof_2 : Oper := { dst := some 23, op := Op.build 50 #[(0, Operand.tmp 15), (1, Operand.tmp 17), (2, Operand.tmp 22)], type := 50, pos := "merkle.go:191", after := #[dD 0, dD 2, dD 7], guard := none }
abbrev kPof_3 : Oper := { dst := none, op := Op.store 50 (Operand.tmp 7) (Operand.tmp 23), type := 0, pos := "merkle.go:191", after := #[dD 9, dD 8, dC 7, dP 0, dP 1, dP 2, dP 3, dP 4, dP 5, dP 6, dP 7, dP 8, dP 9], guard := none }
theorem own_base {w : World} {base base' e size n : Nat} {v : Value} {xs : List Value} (h : w.ownsRow base e size v n xs) (hb : base' ≤ base) : w.ownsRow base' e size v n xs :=
 ⟨h.1, h.2.imp_right fun ⟨g, cap, cur, e1, h1, h2⟩ => ⟨g, cap, cur, e1, Nat.le_trans hb h1, h2⟩⟩
def ProofV (b : Nat) (W : World) (p : Pf) (v : Value) : Prop :=
 ∃ (A1 : Option Addr) (c1 : Nat) (A2 : Option Addr) (c2 : Nat), v = .agg #[.int .i64 p.first, .int .i64 p.size, .slice A1 p.leaves.length c1, .slice A2 p.sides.length c2] ∧ (p.leaves.length ≤ c1 ∧ (A1 = none → c1 = 0)) ∧ (p.sides.length ≤ c2 ∧ (A2 = none → c2 = 0)) ∧
  Rd W W.heap.size A1 (LC p.leaves) ∧ Rd W W.heap.size A2 (B8 p.sides.flatten) ∧ ((∀ ad, A1 = some ad → b ≤ ad.block) ∧ (∀ ad, A2 = some ad → b ≤ ad.block)) ∧ ∀ d ∈ p.sides, d.length = 16
theorem ProofV.keep {b : Nat} {W W' : World} {p : Pf} {v : Value} (h : ProofV b W p v) (hs : W.heap.size ≤ W'.heap.size) (hk : ∀ k, k < W.heap.size → b ≤ k → W'.heap[k]? = W.heap[k]?) : ProofV b W' p v := by
 obtain ⟨A1, c1, A2, c2, e, h1, h2, h3, h4, ⟨h5, h6⟩, h7⟩ := h
 refine ⟨A1, c1, A2, c2, e, h1, h2, fun hn => ?_, fun hn => ?_, ⟨h5, h6⟩, h7⟩
 ·
  obtain ⟨g, o, e, hl, hc⟩ := h3 hn
  exact ⟨g, o, e, by omega, fun j u hu => (World.cell?_of_block (a := ⟨g, o + j, none⟩) (hk g hl (h5 _ e))).trans (hc j u hu)⟩
 ·
  obtain ⟨g, o, e, hl, hc⟩ := h4 hn
  exact ⟨g, o, e, by omega, fun j u hu => (World.cell?_of_block (a := ⟨g, o + j, none⟩) (hk g hl (h6 _ e))).trans (hc j u hu)⟩
theorem ProofV.mono {b b' : Nat} {W : World} {p : Pf} {v : Value} (h : ProofV b W p v) (hb : b' ≤ b) : ProofV b' W p v := by
 obtain ⟨A1, c1, A2, c2, e, h1, h2, h3, h4, ⟨h5, h6⟩, h7⟩ := h
 exact ⟨A1, c1, A2, c2, e, h1, h2, h3, h4, ⟨fun ad e => Nat.le_trans hb (h5 ad e), fun ad e => Nat.le_trans hb (h6 ad e)⟩, h7⟩
def PR (a b : Int) (l s : Value) : List Value := [.int .i64 a, .int .i64 b, l, s]
def ZP : List Value := PR 0 0 (.slice none 0 0) (.slice none 0 0)
theorem PR_one (a b : Int) (A1 A2 : Option Addr) (n1 c1 n2 c2 : Nat) : (PR a b (.slice A1 n1 c1) (.slice A2 n2 c2)).toArray.all (·.oneCell') = true := by rw [List.all_toArray]; rfl
theorem hZP : (#[.int .i64 0, .int .i64 0, .slice none 0 0, .slice none 0 0] : Array Value) = ZP.toArray := rfl
theorem size50 : Hid ((Tryd.prog.info? 50).map (·.size) = some 4) := by unfold Hid; kernel_rfl
theorem size50L (a b : Int) (l s : Value) : (Tryd.prog.info? 50).map (·.size) = some (PR a b l s).length := by
 have : (PR a b l s).length = 4 := rfl
 rw [this]; exact size50.out
theorem size50A (a b : Int) (l s : Value) : (Tryd.prog.info? 50).map (·.size) = some (PR a b l s).toArray.size := size50L a b l s
theorem ZP_PR (a b : Int) (l s : Value) : ZP.toArray.size = (PR a b l s).toArray.size := rfl
structure Pp (w : World) (A : Option Addr) (L : List Lf) (c first last : Nat) (AP : Option Addr) (og : Option Nat) (ov : Option Value) (W : World) : Prop where
 below : Below w.heap.size w W
 c4 : W.cell? ⟨w.heap.size, 0, none⟩ = some (.int .i64 (first : Int))
 c5 : W.cell? ⟨w.heap.size + 1, 0, none⟩ = some (.int .i64 (last : Int))
 z : Blk W (w.heap.size + 1 + 1) 50 ZP
 rdp : Rd W w.heap.size AP (LC (cut L first last))
 p : ∀ g, og = some g → Blk W g 50 ZP ∧ w.heap.size + 3 ≤ g
 row : ∀ v, ov = some v → W.ownsRow (w.heap.size + 3) 41 2 v (last - first) (LC (cut L first last))
 ne : ∀ g v, og = some g → ov = some v → v.ownBlock ≠ some g
structure PF (w : World) (L : List Lf) (first last gp : Nat) (A1 : Option Addr) (c1 : Nat) (W : World) : Prop where
 below : Below w.heap.size w W
 c4 : W.cell? ⟨w.heap.size, 0, none⟩ = some (.int .i64 (first : Int))
 c5 : W.cell? ⟨w.heap.size + 1, 0, none⟩ = some (.int .i64 (last : Int))
 z : Blk W (w.heap.size + 1 + 1) 50 ZP
 p : Blk W gp 50 (PR (first : Int) (L.length : Int) (.slice A1 (last - first) c1) (.slice none 0 0))
 hgp : w.heap.size + 3 ≤ gp
 rd : Rd W W.heap.size A1 (LC (cut L first last))
 ne : ∀ ad, A1 = some ad → ad.block ≠ gp ∧ w.heap.size + 3 ≤ ad.block
 cap : last - first ≤ c1 ∧ (A1 = none → c1 = 0)
section
variable {w W W' : World} {A : Option Addr} {L : List Lf} {c first last : Nat} {AP : Option Addr} {og : Option Nat} {ov : Option Value}
theorem Pp.sees (h : Pp w A L c first last AP og ov W) : W.cell? ⟨w.heap.size, 0, none⟩ = some (.int .i64 (first : Int)) ∧ W.cell? ⟨w.heap.size + 1, 0, none⟩ = some (.int .i64 (last : Int)) := ⟨h.c4, h.c5⟩
theorem PF.sees {gp : Nat} {A1 : Option Addr} {c1 : Nat} (h : PF w L first last gp A1 c1 W) : W.cell? ⟨w.heap.size, 0, none⟩ = some (.int .i64 (first : Int)) ∧ W.cell? ⟨w.heap.size + 1, 0, none⟩ = some (.int .i64 (last : Int)) := ⟨h.c4, h.c5⟩
theorem Pp.grow (h : Pp w A L c first last AP og ov W) (hb : Below W.heap.size W W') : Pp w A L c first last AP og ov W' where
 below := h.below.trans (hb.mono h.below.size)
 c4 := (hb.cell (World.block_lt_of_cell? _ _ h.c4)).trans h.c4
 c5 := (hb.cell (World.block_lt_of_cell? _ _ h.c5)).trans h.c5
 z := h.z.below hb h.z.lt
 rdp := h.rdp.keep fun p hp => hb.cell (Nat.lt_of_lt_of_le hp h.below.size)
 p := fun g hg => ⟨(h.p g hg).1.below hb (h.p g hg).1.lt, (h.p g hg).2⟩
 row := fun v hv => own_below (h.row v hv) hb
 ne := h.ne
theorem Pp.drew (h : Pp w A L c first last AP og ov W) : Pp w A L c first last AP og ov W.drew := h.grow (Below.refl _ _).drew
theorem Pp.size (h : Pp w A L c first last AP og ov W) : w.heap.size + 3 ≤ W.heap.size := by have := h.z.lt; omega
theorem Pp.alloc (h : Pp w A L c first last AP none ov W) : Pp w A L c first last AP (some W.heap.size) ov (W.alloc (.cells ZP.toArray 50)) := by
 have h2 := h.grow ((Below.refl _ _).alloc (Nat.le_refl _) (.cells ZP.toArray 50))
 exact { h2 with
  p := fun g hg => by injection hg with hg; subst hg; exact ⟨Blk.new _ _ _, h.size⟩
  ne := fun g v hg hv e => by injection hg with hg; subst hg; exact absurd ((h.row v hv).lt _ e).2 (Nat.lt_irrefl _) }
theorem Pp.append (h : Pp w A L c first last AP og none W) {v : Value} (ho : W'.ownsRow W.heap.size 41 2 v (last - first) (LC (cut L first last))) (hg : W.grownBy W' (Value.slice none 0 0).ownBlock) : Pp w A L c first last AP og (some v) W' := by
 have hb : Below W.heap.size W W' := ⟨hg.os, hg.tape, hg.output, hg.size, fun k hk => hg.block k hk (by simp [Value.ownBlock])⟩
 have h2 := h.grow hb
 exact { h2 with
  row := fun v' hv => by injection hv with hv; subst hv; exact own_base ho h.size
  ne := fun g v' hg' hv e => by injection hv with hv; subst hv; have := (ho.lt _ e).1; have := (h.p g hg').1.lt; omega }
theorem Pp.fill {gp : Nat} {A2 : Option Addr} {c2 : Nat} (h : Pp w A L c first last AP (some gp) (some (.slice A2 (last - first) c2)) W) (hc : last - first ≤ c2) : PF w L first last gp A2 c2 (W.setRow gp (PR (first : Int) (L.length : Int) (.slice A2 (last - first) c2) (.slice none 0 0)).toArray) := by
 obtain ⟨p1, p2⟩ := h.p gp rfl
 have hr := h.row _ rfl
 have hn := h.ne gp _ rfl rfl
 obtain ⟨A3, c3, e3, h3, h3n, h4⟩ := own_form hr
 injection e3 with e3 e4 e5; subst e3 e5
 refine { below := belowRow h.below (by omega) _, c4 := ?_, c5 := ?_, z := h.z.setRow (by omega) _, p := p1.row _, hgp := p2, rd := ?_, ne := ?_, cap := ⟨hc, h3n⟩ }
 ·
  exact (World.cell?_of_block (heap_setRow_other _ _ _ _ (show w.heap.size ≠ gp by omega))).trans h.c4
 ·
  exact (World.cell?_of_block (heap_setRow_other _ _ _ _ (show w.heap.size + 1 ≠ gp by omega))).trans h.c5
 ·
  intro hne
  obtain ⟨g, o, e, hl, hcell⟩ := h4 hne
  subst e
  exact ⟨g, o, rfl, by simpa using hl, fun j u hu => (World.cell?_of_block (heap_setRow_other _ _ _ _ (show g ≠ gp from fun e => hn (by simp [Value.ownBlock, e])))).trans (hcell j u hu)⟩
 ·
  intro ad e; subst e; exact ⟨fun e2 => hn (by simp [Value.ownBlock, e2]), (hr.lt ad.block rfl).1⟩
end
set_option maxHeartbeats 4000000 in
theorem proofOf_any (A : Option Addr) (L : List Lf) (c : Nat) (f e : Int) (first last : Nat) (w : World) (hL : okL L) (hc : L.length ≤ c) (hnil : A = none → c = 0) (hf : max f 0 = (first : Int)) (he : min e (L.length : Int) = (last : Int)) (hfl : first ≤ last) (hr : Rd w w.heap.size A (LC L)) (ht : Tab 1 w) (hof : okInt f) (hoe : okInt e) :
  Calls Tryd.prog 55 #[.slice A L.length c, .int .i64 f, .int .i64 e] w fun en w' => ∃ v, en = .returned v ∧ ProofV w.heap.size w' (shown node lf top L first last) v ∧ Below w.heap.size w w' := by
 have hln := hL.1
 have hll : last ≤ L.length := by omega
 have HL := Lh hL
 obtain ⟨hof1, hof2⟩ := hof
 obtain ⟨hoe1, hoe2⟩ := hoe
 have hZ := hZP
 obtain ⟨AP, hAP⟩ : ∃ AP, AP = (if c = first then A else A.map (·.add (first * 2))) := ⟨_, rfl⟩
 have HSL := Lh (fun W => show (Instr.sliceAt 33 (.slice A L.length c) (some (.int .i64 (first : Int))) (some (.int .i64 (last : Int))) none).run Tryd.prog W = .ok (.slice AP (last - first) (c - first)) W by rw [hAP]; exact slice33 A L.length c first last hfl hll hc W)
 have HNP := Lh (show AP = none → c - first = 0 by
  intro h; rw [hAP] at h
  split at h
  ·
   omega
  ·
   cases A with
   | none => have := hnil rfl; omega
   | some ad => simp at h)
 have HCL := Lh (cut_len L first last hll)
 have HNIL := Lh hnil
 have HT := Lh ht
 obtain ⟨W1, hW1⟩ : ∃ W, W = ((w.alloc (.cells #[.int .i64 (first : Int)] 3)).alloc (.cells #[.int .i64 (last : Int)] 3)).alloc (.cells ZP.toArray 50) := ⟨_, rfl⟩
 have K1 := Lh (show Pp w A L c first last AP none none W1 from {
  below := by rw [hW1]; exact (((Below.refl _ _).alloc (Nat.le_refl _) _).alloc (by simp) _).alloc (by simp; omega) _
  c4 := by rw [hW1]; exact ((((Blk.new w 3 [.int .i64 (first : Int)]).alloc _).alloc _).cell 0).trans rfl
  c5 := by rw [hW1]; exact (((Blk.newAt _ _ 3 [.int .i64 (last : Int)] (by simp)).alloc _).cell 0).trans rfl
  z := by rw [hW1]; exact Blk.newAt _ _ 50 ZP (by simp)
  rdp := by
   have hb : Below w.heap.size w W1 := by rw [hW1]; exact (((Below.refl _ _).alloc (Nat.le_refl _) _).alloc (by simp) _).alloc (by simp; omega) _
   rw [hAP]; exact (rd_part hr c first last hfl hll hc).below hb
  p := fun g hg => by cases hg
  row := fun v hv => by cases hv
  ne := fun g v hg => by cases hg })
 have HR := Lh hr
 have HW := Lh hW1
 clear hW1 hAP hL hnil ht hr
 go_enter Tryd.func55, Tryd.ntmps55
 go_wp2_with fail
 go_region
 go_wp2_with fail
 rw [← HW.out]
 have K1d := Lh K1.out.drew
 clear HW
 generalize World.drew W1 = Wa at K1d ⊢
 go_cut [7] (fun s7 wx => ∃ (gp : Nat) (A1 : Option Addr) (c1 : Nat), s7 = .pointer (some ⟨gp, 0, none⟩) ∧ Hid (PF w L first last gp A1 c1 wx))
 case first =>
  refine wp_region_held (S := fun W => W.cell? ⟨w.heap.size, 0, none⟩ = some (.int .i64 (first : Int)) ∧ W.cell? ⟨w.heap.size + 1, 0, none⟩ = some (.int .i64 (last : Int))) (by kernel_rfl) ?_
  change wpAnyH _ _ _ _ _ _ _ _ (World.drew Wa)
  have k0 := Lh K1d.out.drew
  have hs0 := k0.out.sees
  generalize World.drew Wa = Wd at k0 hs0 ⊢
  refine tkH 0 ({ dst := some 15, op := Op.load 3 (Operand.tmp 4), type := 3, pos := "merkle.go:191", after := #[], guard := none }) (.int .i64 (first : Int)) hs0 (fun W hW => by have hcl := hW.1; go_simp) ?_
  try simp only [zp, zn, z1, z2, z3]
  refine tkH 1 ({ dst := some 16, op := Op.move (Operand.tmp 0), type := 33, pos := "merkle.go:191", after := #[], guard := none }) (.slice A L.length c) hs0 (fun W hW => ?y1) ?_
  case y1 => go_simp
  try simp only [zp, zn, z1, z2, z3]
  refine tkH 2 ({ dst := some 17, op := Op.call { callee := Callee.builtin Builtin.len, args := #[Operand.tmp 16], argTypes := #[33] }, type := 3, pos := "merkle.go:191", after := #[dD 1], guard := none }) (.int .i64 (L.length : Int)) hs0 (fun W hW => ?y2) ?_
  case y2 => go_simp
  try simp only [zp, zn, z1, z2, z3]
  refine tkH 3 ({ dst := some 18, op := Op.move (Operand.tmp 0), type := 33, pos := "merkle.go:191", after := #[], guard := none }) (.slice A L.length c) hs0 (fun W hW => ?y3) ?_
  case y3 => go_simp
  try simp only [zp, zn, z1, z2, z3]
  refine tkH 4 ({ dst := some 19, op := Op.load 3 (Operand.tmp 4), type := 3, pos := "merkle.go:191", after := #[], guard := none }) (.int .i64 (first : Int)) hs0 (fun W hW => by have hcl := hW.1; go_simp) ?_
  try simp only [zp, zn, z1, z2, z3]
  refine tkH 5 ({ dst := some 20, op := Op.load 3 (Operand.tmp 5), type := 3, pos := "merkle.go:191", after := #[], guard := none }) (.int .i64 (last : Int)) hs0 (fun W hW => by have hcl := hW.2; go_simp) ?_
  try simp only [zp, zn, z1, z2, z3]
  refine tkH 6 ({ dst := some 21, op := Op.slice 33 (Operand.tmp 18) (some (Operand.tmp 19)) (some (Operand.tmp 20)) none, type := 33, pos := "merkle.go:191", after := #[dD 3, dD 4, dD 5], guard := none }) (.slice AP (last - first) (c - first)) hs0 (fun W hW => by have hsl := HSL.out W; go_simp) ?_
  try simp only [zp, zn, z1, z2, z3]
  refine wpAnyH_ready (rs := [7, 9]) (by kernel_rfl) (by simp) ?_
  refine AllReadyH.cons (o := kPof_0) rfl (fun K hK => ?_) (AllReadyH.cons (o := kPof_1) rfl (fun K hK => ?_) AllReadyH.nil)
  ·
   rw [if_pos (by rfl)]
   refine wp_append_leaves Tryd.underlying33 info41 (.const (.slice none 0 0)) (.tmp 21) rfl Wd.heap.size _ 0 [] rfl (World.ownsRow_nil _ _ _ _) AP (last - first) (c - first) w.heap.size (cut L first last) rfl HNP.out HCL.out k0.out.rdp (by omega) (Nat.le_refl _) ?_; intro v2 w3 ho2 hg2
   obtain ⟨A2, c2, rfl, hc2, _, _⟩ := own_form ho2
   have k1 := Lh (k0.out.append (by simpa using ho2) hg2)
   have hs2 := k1.out.sees
   have HC2 := Lh (show last - first ≤ c2 by omega)
   clear ho2 hg2 hc2
   rw [Nat.zero_add]
   refine hK.out _ _ hs2 (fun _ => ?_)
   clear hK K
   try simp only [zp, zn, z1, z2, z3]
   refine wpAnyH_ready (rs := [8, 9]) (by kernel_rfl) (by simp) ?_
   refine AllReadyH.cons (o := kPof_2) rfl (fun K hK => ?_) (AllReadyH.cons (o := kPof_1) rfl (fun K hK => ?_) AllReadyH.nil)
   ·
    rw [if_pos (by rfl)]
    go_simp
    refine hK.out _ _ hs2 (fun _ => ?_)
    clear hK K
    try simp only [zp, zn, z1, z2, z3]
    refine wpAnyH_ready (rs := [9]) (by kernel_rfl) (by simp) ?_
    refine AllReadyH.cons (o := kPof_1) rfl (fun K hK => ?_) AllReadyH.nil
    rw [if_pos (by rfl)]
    have k4 := Lh k1.out.alloc
    have hs5 := k4.out.sees
    go_simp
    refine hK.out _ _ hs5 (fun _ => ?_)
    clear hK K
    generalize w3.alloc (.cells ZP.toArray 50) = w6 at k4 hs5 ⊢
    try simp only [zp, zn, z1, z2, z3]
    have PB := Lh (k4.out.p _ rfl).1
    refine wpAnyH_ready (rs := [10]) (by kernel_rfl) (by simp) ?_
    refine AllReadyH.cons (o := kPof_3) rfl (fun K hK => ?_) AllReadyH.nil
    rw [if_pos (by rfl)]
    refine wp_store_row 50 (.tmp 7) (.tmp 23) rfl (w3.heap.size) (PR (first : Int) (L.length : Int) (.slice A2 (last - first) c2) (.slice none 0 0)).toArray rfl rfl 50 _ PB.out size50.out rfl (PR_one _ _ _ _ _ _ _ _) ?_
    have kf := Lh (k4.out.fill HC2.out)
    refine hK.out _ _ kf.out.sees (fun _ => ?_)
    clear hK K
    try simp only [zp, zn, z1, z2, z3]
    refine wpAnyH_done (by kernel_rfl) ?_ _
    try simp only [zp, zn, z1, z2, z3]
    go_wp2_with fail
    go_meet
    exact ⟨w3.heap.size, A2, c2, rfl, kf⟩
   ·
    rw [if_pos (by rfl)]
    have k7 := Lh k1.out.alloc
    have hs8 := k7.out.sees
    go_simp
    refine hK.out _ _ hs8 (fun _ => ?_)
    clear hK K
    generalize w3.alloc (.cells ZP.toArray 50) = w9 at k7 hs8 ⊢
    try simp only [zp, zn, z1, z2, z3]
    refine wpAnyH_ready (rs := [8]) (by kernel_rfl) (by simp) ?_
    refine AllReadyH.cons (o := kPof_2) rfl (fun K hK => ?_) AllReadyH.nil
    rw [if_pos (by rfl)]
    go_simp
    refine hK.out _ _ hs8 (fun _ => ?_)
    clear hK K
    try simp only [zp, zn, z1, z2, z3]
    have PB := Lh (k7.out.p _ rfl).1
    refine wpAnyH_ready (rs := [10]) (by kernel_rfl) (by simp) ?_
    refine AllReadyH.cons (o := kPof_3) rfl (fun K hK => ?_) AllReadyH.nil
    rw [if_pos (by rfl)]
    refine wp_store_row 50 (.tmp 7) (.tmp 23) rfl (w3.heap.size) (PR (first : Int) (L.length : Int) (.slice A2 (last - first) c2) (.slice none 0 0)).toArray rfl rfl 50 _ PB.out size50.out rfl (PR_one _ _ _ _ _ _ _ _) ?_
    have kf := Lh (k7.out.fill HC2.out)
    refine hK.out _ _ kf.out.sees (fun _ => ?_)
    clear hK K
    try simp only [zp, zn, z1, z2, z3]
    refine wpAnyH_done (by kernel_rfl) ?_ _
    try simp only [zp, zn, z1, z2, z3]
    go_wp2_with fail
    go_meet
    exact ⟨w3.heap.size, A2, c2, rfl, kf⟩
  ·
   rw [if_pos (by rfl)]
   have k10 := Lh k0.out.alloc
   have hs11 := k10.out.sees
   go_simp
   refine hK.out _ _ hs11 (fun _ => ?_)
   clear hK K
   generalize Wd.alloc (.cells ZP.toArray 50) = w12 at k10 hs11 ⊢
   try simp only [zp, zn, z1, z2, z3]
   refine wpAnyH_ready (rs := [7]) (by kernel_rfl) (by simp) ?_
   refine AllReadyH.cons (o := kPof_0) rfl (fun K hK => ?_) AllReadyH.nil
   rw [if_pos (by rfl)]
   refine wp_append_leaves Tryd.underlying33 info41 (.const (.slice none 0 0)) (.tmp 21) rfl w12.heap.size _ 0 [] rfl (World.ownsRow_nil _ _ _ _) AP (last - first) (c - first) w.heap.size (cut L first last) rfl HNP.out HCL.out k10.out.rdp (by omega) (Nat.le_refl _) ?_; intro v2 w15 ho2 hg2
   obtain ⟨A2, c2, rfl, hc2, _, _⟩ := own_form ho2
   have k13 := Lh (k10.out.append (by simpa using ho2) hg2)
   have hs14 := k13.out.sees
   have HC2 := Lh (show last - first ≤ c2 by omega)
   clear ho2 hg2 hc2
   rw [Nat.zero_add]
   refine hK.out _ _ hs14 (fun _ => ?_)
   clear hK K
   try simp only [zp, zn, z1, z2, z3]
   refine wpAnyH_ready (rs := [8]) (by kernel_rfl) (by simp) ?_
   refine AllReadyH.cons (o := kPof_2) rfl (fun K hK => ?_) AllReadyH.nil
   rw [if_pos (by rfl)]
   go_simp
   refine hK.out _ _ hs14 (fun _ => ?_)
   clear hK K
   try simp only [zp, zn, z1, z2, z3]
   have PB := Lh (k13.out.p _ rfl).1
   refine wpAnyH_ready (rs := [10]) (by kernel_rfl) (by simp) ?_
   refine AllReadyH.cons (o := kPof_3) rfl (fun K hK => ?_) AllReadyH.nil
   rw [if_pos (by rfl)]
   refine wp_store_row 50 (.tmp 7) (.tmp 23) rfl (Wd.heap.size) (PR (first : Int) (L.length : Int) (.slice A2 (last - first) c2) (.slice none 0 0)).toArray rfl rfl 50 _ PB.out size50.out rfl (PR_one _ _ _ _ _ _ _ _) ?_
   have kf := Lh (k13.out.fill HC2.out)
   refine hK.out _ _ kf.out.sees (fun _ => ?_)
   clear hK K
   try simp only [zp, zn, z1, z2, z3]
   refine wpAnyH_done (by kernel_rfl) ?_ _
   try simp only [zp, zn, z1, z2, z3]
   go_wp2_with fail
   go_meet
   exact ⟨Wd.heap.size, A2, c2, rfl, kf⟩
 case rest =>
  obtain ⟨gp, A1, c1, rfl, KF⟩ := hcut
  obtain ⟨w0, hw0⟩ : ∃ w0, w0 = wc := ⟨_, rfl⟩
  rw [← hw0] at KF ⊢
  clear hw0
  obtain ⟨W2, hW2⟩ : ∃ W, W = (w0.alloc (.cells #[.slice A L.length c] 33)).alloc (.cells #[.func (.func 78) #[] #[.pointer (some ⟨w0.heap.size, 0, none⟩)]] 100) := ⟨_, rfl⟩
  have hb2 : Below w0.heap.size w0 W2 := by rw [hW2]; exact ((Below.refl _ _).alloc (Nat.le_refl _) _).alloc (by simp) _
  have hsz2 : W2.heap.size = w0.heap.size + 1 + 1 := by rw [hW2]; simp
  have hgp0 := KF.out.p.lt
  have hgp1 := KF.out.hgp
  have hT1 := HT.out.1
  have hws := KF.out.below.size
  have pl : PlP w.heap.size (w0.heap.size + 1 + 1) w0.heap.size gp w.heap.size (w.heap.size + 1) (w0.heap.size + 1) := ⟨hT1, by omega, by omega, by omega, by omega, by omega, by omega⟩
  have hB02 : Below w.heap.size w W2 := KF.out.below.trans (hb2.mono hws)
  have S0 : StP w.heap.size (w0.heap.size + 1 + 1) w0.heap.size gp w.heap.size (w.heap.size + 1) (w0.heap.size + 1) A L c first last (.int .i64 (first : Int)) (.int .i64 (L.length : Int)) (.slice A1 (last - first) c1) (.slice none 0 0) [] W2 := {
   size := by omega
   leaf := {
    cell := by rw [hW2]; exact (((Blk.new w0 33 [.slice A L.length c]).alloc _).cell 0).trans rfl
    rd := HR.out.below hB02
    tab := HT.out.below hB02 hT1 }
   blk := KF.out.p.below hb2 hgp0
   row := World.ownsRow_nil _ _ _ _
   c4 := (hb2.cell (World.block_lt_of_cell? _ _ KF.out.c4)).trans KF.out.c4
   c5 := (hb2.cell (World.block_lt_of_cell? _ _ KF.out.c5)).trans KF.out.c5
   c8 := by rw [hW2]; exact ((Blk.newAt _ _ 100 [.func (.func 78) #[] #[.pointer (some ⟨w0.heap.size, 0, none⟩)]] (by simp)).cell 0).trans rfl
   each := fun d hd => by cases hd }
  have HC := Lh (rootOf_any (toldProve pl HL.out (by omega) (by omega)) hln L.length [] (ownP gp (.slice none 0 0)) W2 (Nat.le_refl _) ⟨_, fun _ => Iff.rfl, S0⟩ (Nat.zero_le _))
  have HW2 := Lh hW2
  have B2 := Lh hB02
  have HB2 := Lh hb2
  have Z2 := Lh (KF.out.z.below hb2 KF.out.z.lt)
  have PL := Lh pl
  obtain ⟨SD, hSD⟩ : ∃ SD, SD = (shown node lf top L first last).sides := ⟨_, rfl⟩
  have HSD := Lh hSD
  have HE := Lh (show (rootRun node top (gProve node (leafAt lf L) first last) [] L.length).2 = SD by rw [hSD]; rfl)
  have HSH := Lh (show shown node lf top L first last = ⟨(first : Int), (L.length : Int), cut L first last, SD⟩ by rw [hSD]; rfl)
  clear hW2 hb2 S0 pl hB02 hSD
  have hsz2' := Lh hsz2
  clear hsz2
  go_wp2_with (first
   | (go_at_call 51; refine (digestOf_any A L.length c _).mono ?_; rintro e w2 ⟨rfl, rfl⟩))
  rw [← HW2.out]
  refine HC.out.mono ?_; rintro e w3 ⟨rfl, O3, ⟨v3, hO3, S3⟩, F3⟩
  obtain ⟨A3, c3, rfl, hc3, hn3, hr3⟩ := own_form S3.row
  rw [HE.out] at S3 hc3 hr3
  have Z3 := Lh (show w3.heap[w.heap.size + 1 + 1]? = some (.cells ZP.toArray 50 (0, 0)) from F3.blk Z2.out (by rintro (h | h); omega; simp [Value.ownBlock] at h))
  have P3 := Lh S3.blk.at
  have S3h := Lh S3
  have F3h := Lh F3
  have H3 := Lh (And.intro hc3 (And.intro hn3 hr3))
  clear S3 F3 hc3 hn3 hr3 hO3 HC
  go_wp2_with (first
   | (refine wpList_load_at rfl 50 (.tmp 7) rfl ⟨gp, 0, none⟩ rfl (PR (first : Int) (L.length : Int) (.slice A1 (last - first) c1) (.slice A3 SD.length c3)) _ P3.out Tryd.underlying50 rfl (size50L _ _ _ _) ?_)
   | (with_reducible refine wpList_store_row rfl 50 (.tmp 6) (.tmp 30) rfl (w.heap.size + 1 + 1) (PR (first : Int) (L.length : Int) (.slice A1 (last - first) c1) (.slice A3 SD.length c3)).toArray rfl rfl 50 _ Z3.out (size50A _ _ _ _) (ZP_PR _ _ _ _) (PR_one _ _ _ _ _ _ _ _) ?_))
  obtain ⟨hc3, hn3, hr3⟩ := H3.out
  have hz := hsz2'.out
  have hw0 := KF.out.below.size
  have hF := F3h.out
  have hne := KF.out.ne
  have hg1 := KF.out.hgp
  have hzl := KF.out.z.lt
  refine bodyPost_ret (v := .agg (PR (first : Int) (L.length : Int) (.slice A1 (last - first) c1) (.slice A3 SD.length c3)).toArray) ?_ rfl ⟨_, rfl, ?_, ?_⟩
  ·
   have hr := run_loadVar_row (P := Tryd.prog) _ (w.heap.size + 1 + 1) 50 50 (PR (first : Int) (L.length : Int) (.slice A1 (last - first) c1) (.slice A3 SD.length c3)).toArray (0, 0) _ (heap_setRow w3 (w.heap.size + 1 + 1) (PR (first : Int) (L.length : Int) (.slice A1 (last - first) c1) (.slice A3 SD.length c3)).toArray _ 50 Z3.out) Tryd.underlying50 rfl size50.out
   simp [results, Tryd.results55, asAddr, hr, Act.put]
  ·
   rw [HSH.out]
   refine ⟨A1, c1, A3, c3, by show _ = Value.agg #[.int .i64 (first : Int), .int .i64 (L.length : Int), .slice A1 (cut L first last).length c1, .slice A3 SD.length c3]; rw [HCL.out]; rfl, ⟨by show (cut L first last).length ≤ c1; rw [HCL.out]; exact KF.out.cap.1, KF.out.cap.2⟩, ⟨hc3, hn3⟩, ?_, ?_, ⟨fun ad e => by have := (hne ad e).2; omega, fun ad e => by subst e; have := (S3h.out.row.lt ad.block rfl).1; omega⟩, S3h.out.each⟩
   ·
    intro hn
    obtain ⟨g, o, e, hl, hcell⟩ := KF.out.rd hn
    obtain ⟨n1, n2⟩ := hne _ e
    have h2 : g < W2.heap.size := by omega
    refine ⟨g, o, e, by simp only [World.setRow, Array.size_modify]; have := hF.size; omega, fun j u hu => ?_⟩
    rw [World.cell?_of_block (heap_setRow_other _ _ _ _ (show g ≠ w.heap.size + 1 + 1 from fun e2 => by simp only at n2; omega)),
     World.cell?_of_block (a := ⟨g, o + j, none⟩) (hF.keep g h2 (by rintro (h | h); exact n1 h; simp [Value.ownBlock] at h)), HB2.out.cell (p := ⟨g, o + j, none⟩) hl]
    exact hcell j u hu
   ·
    intro hn
    obtain ⟨g, o, e, hl, hcell⟩ := hr3 hn
    subst e
    have hgB := (S3h.out.row.lt g rfl).1
    exact ⟨g, o, rfl, by simpa using hl, fun j u hu => (World.cell?_of_block (heap_setRow_other _ _ _ _ (show g ≠ w.heap.size + 1 + 1 by omega))).trans (hcell j u hu)⟩
  ·
   refine belowRow (B2.out.trans ⟨hF.os, hF.tape, hF.output, hF.size, fun k hk => hF.keep k (by omega) ?_⟩) (by omega) _
   rintro (h | h)
   ·
    omega
   ·
    simp [Value.ownBlock] at h
end Go.Proofs.YtofccgkgjcnfbaaDoor
