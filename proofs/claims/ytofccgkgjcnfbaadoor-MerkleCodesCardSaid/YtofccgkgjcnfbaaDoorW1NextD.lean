/-
  The contract of the closure that decodes a digest of a list.
  Conditions: the captured variables lie in blocks of their own, the list that is built is of the call's own making, sixteen bytes follow.
-/
import Derived.Test.YtofccgkgjcnfbaaDoorGW1NextW1ListW1Dig
import Derived.Deep.RegionWith
import Derived.Deep.RegionLaw
import Derived.Deep.RegionHeld3
import Derived.Deep.DeepCutAuto
import Derived.Deep.DrawnRows
import Derived.Deep.MidRow
set_option linter.unusedSimpArgs false
namespace Go.Proofs.YtofccgkgjcnfbaaDoor.W1
open Go.RowKit Wr Sh
set_option maxRecDepth 100000
set_option linter.unusedVariables false
theorem Tryd.info29 : (Tryd.prog.info? 29).map (fun i => (i.zero, i.size, i.bytes)) = some (some (.agg #[.int .u8 0, .int .u8 0, .int .u8 0, .int .u8 0, .int .u8 0, .int .u8 0, .int .u8 0, .int .u8 0, .int .u8 0, .int .u8 0, .int .u8 0, .int .u8 0, .int .u8 0, .int .u8 0, .int .u8 0, .int .u8 0]), 16, 16) := by kernel_rfl
def isRow16 (w : World) (b : Nat) : Prop := ∃ old : Array Value, w.heap[b]? = some (.cells old 29 (0, 0)) ∧ old.size = 16
def get16 (w : World) (b : Nat) : Array Value := match w.heap[b]? with | some (.cells cs _ _) => cs | _ => #[]
theorem isRow16_new (w : World) (cs : Array Value) (h : cs.size = 16) : isRow16 (w.alloc (.cells cs 29)) w.heap.size := ⟨cs, heap_alloc_new w _, h⟩
theorem isRow16_drew (w : World) (b : Nat) : isRow16 w.drew b = isRow16 w b := rfl
theorem get16_drew (w : World) (b : Nat) : get16 w.drew b = get16 w b := rfl
def Dig16 (cs : Array Value) : Prop := cs.size = 16 ∧ cs.all (·.oneCell') = true
def okStore (w : World) (x y : Value) : Prop := ∃ b cs, x = .pointer (some ⟨b, 0, none⟩) ∧ y = .agg cs ∧ Dig16 cs ∧ isRow16 w b
def stored16 (w : World) (x y : Value) : World := match x, y with
  | .pointer (some a), .agg cs => w.setRow a.block cs
  | _, _ => w
def okLoad (w : World) (x : Value) : Prop := ∃ b, x = .pointer (some ⟨b, 0, none⟩) ∧ isRow16 w b
def loaded16 (w : World) (x : Value) : Array Value := match x with
  | .pointer (some a) => get16 w a.block
  | _ => #[]
theorem wp_store16 {a : Act} {w : World} {K : Act → World → Prop} {Q : Exit → Act → World → Prop} (dst : Option Nat) (x y : Operand) (t : TypeId) (pos : String) (after : Array Edge) (h : okStore w (a.eval x) (a.eval y)) :
    Oper.wp Tryd.prog ⟨dst, .store 29 x y, t, pos, after, none⟩ a w K Q = K (a.put dst undef) (stored16 w (a.eval x) (a.eval y)) := by
  obtain ⟨b, cs, hx, hy, ⟨h1, h2⟩, old, h3, h4⟩ := h
  have hs : (Tryd.prog.info? 29).map (·.size) = some cs.size := by rw [h1]; kernel_rfl
  unfold Oper.wp execOp
  simp only [hx, hy, stored16, Instr.storeAt, Instr.sureAddr, Sem.run_bind, Sem.run_pure, Result.andThen_ok, run_storeVar_row (P := Tryd.prog) w b 29 29 old cs h3 hs (by rw [h4, h1]) h2]
  rfl
theorem wp_load16 {a : Act} {w : World} {K : Act → World → Prop} {Q : Exit → Act → World → Prop} (dst : Option Nat) (x : Operand) (t : TypeId) (pos : String) (after : Array Edge) (h : okLoad w (a.eval x)) :
    Oper.wp Tryd.prog ⟨dst, .load 29 x, t, pos, after, none⟩ a w K Q = K (a.put dst (.agg (loaded16 w (a.eval x)))) w := by
  obtain ⟨b, hx, hr⟩ := h
  obtain ⟨old, h3, h4⟩ := hr
  have hs : (Tryd.prog.info? 29).map (·.size) = some old.size := by rw [h4]; kernel_rfl
  have hg : get16 w b = old := by simp [get16, h3]
  unfold Oper.wp execOp
  simp only [hx, loaded16, hg, Instr.loadAt, Instr.sureAddr, Sem.run_bind, Sem.run_pure, Result.andThen_ok, run_loadVar_row (P := Tryd.prog) w b 29 29 old (0, 0) (.array 16 5) h3 Tryd.underlying29 rfl hs]
  rfl
theorem okLoad_at (w : World) (b : Nat) : okLoad w (.pointer (some ⟨b, 0, none⟩)) = isRow16 w b := by
  apply propext
  constructor
  · rintro ⟨b', h, hr⟩
    simp only [Value.pointer.injEq, Option.some.injEq, Addr.mk.injEq, and_true] at h
    subst h; exact hr
  · exact fun h => ⟨b, rfl, h⟩
theorem okStore_at (w : World) (b : Nat) (cs : Array Value) (hd : Dig16 cs) : okStore w (.pointer (some ⟨b, 0, none⟩)) (.agg cs) = isRow16 w b := by
  apply propext
  constructor
  · rintro ⟨b', cs', h, _, _, hr⟩
    simp only [Value.pointer.injEq, Option.some.injEq, Addr.mk.injEq, and_true] at h
    subst h; exact hr
  · exact fun h => ⟨b, cs, rfl, rfl, hd, h⟩
theorem stored16_at (w : World) (b : Nat) (cs : Array Value) : stored16 w (.pointer (some ⟨b, 0, none⟩)) (.agg cs) = w.setRow b cs := rfl
theorem loaded16_at (w : World) (b : Nat) : loaded16 w (.pointer (some ⟨b, 0, none⟩)) = get16 w b := rfl
theorem keepS {w w1 : World} {g : Nat} (hb : Below w.heap.size w w1) (hg : g < w.heap.size) (O : Obj) (D : List Value) :
    w1.cell? ⟨g, 0, none⟩ = w.cell? ⟨g, 0, none⟩ ∧ (w1.alloc O).cell? ⟨g, 0, none⟩ = w.cell? ⟨g, 0, none⟩ ∧
    ((w1.alloc O).setCells w1.heap.size 0 D).cell? ⟨g, 0, none⟩ = w.cell? ⟨g, 0, none⟩ ∧ (w1.setCells w.heap.size 0 D).cell? ⟨g, 0, none⟩ = w.cell? ⟨g, 0, none⟩ := by
  have h1 : w1.cell? ⟨g, 0, none⟩ = w.cell? ⟨g, 0, none⟩ := hb.cell (p := ⟨g, 0, none⟩) hg
  have hs := hb.size
  have h2 : (w1.alloc O).cell? ⟨g, 0, none⟩ = w1.cell? ⟨g, 0, none⟩ := World.cell?_alloc_lt _ _ _ (by simp; omega)
  refine ⟨h1, h2.trans h1, ?_, ?_⟩
  · rw [World.cell?_setCells_out _ D 0 _ ⟨g, 0, none⟩ (fun hb _ => absurd hb (by simp; omega)), h2, h1]
  · rw [World.cell?_setCells_out _ D 0 _ ⟨g, 0, none⟩ (fun hb _ => absurd hb (by simp; omega)), h1]
theorem there_new (W : World) (cs : Array Value) (n : Nat) (h : cs.size = n) : (W.alloc (.cells cs 29)).there W.heap.size 0 n := fun j hj => by
  have hb : (W.alloc (.cells cs 29)).heap[W.heap.size]? = some (.cells cs 29 (0, 0)) := heap_alloc_new W _
  rw [Nat.zero_add, cell_of_row _ _ _ _ _ _ hb, frozen_of_row _ _ _ _ _ hb]
  exact ⟨by simp; omega, rfl⟩
theorem there_of {w1 : World} {b n : Nat} {cs : Array Value} (hb : w1.heap[b]? = some (.cells cs 29 (0, 0))) (h : cs.size = n) : w1.there b 0 n := fun j hj => by
  rw [Nat.zero_add, cell_of_row _ _ _ _ _ _ hb, frozen_of_row _ _ _ _ _ hb]
  exact ⟨by simp; omega, rfl⟩
theorem setCells_block {w : World} {b : Nat} {t : TypeId} : ∀ (D : List Value) (o : Nat) (cs : List Value), w.heap[b]? = some (.cells cs.toArray t (0, 0)) → o + D.length = cs.length →
    (w.setCells b o D).heap[b]? = some (.cells (cs.take o ++ D).toArray t (0, 0)) := by
  intro D
  induction D generalizing w with
  | nil => intro o cs h ho; simp at ho; subst ho; simpa [World.setCells] using h
  | cons d D ih =>
    intro o cs h ho
    have h2 : (w.setCell ⟨b, o, none⟩ d).heap[b]? = some (.cells (cs.set o d).toArray t (0, 0)) := by
      simp [World.setCell, Array.getElem?_modify, h]
    rw [World.setCells, ih (o + 1) (cs.set o d) h2 (by simp at ho ⊢; omega)]
    congr 3
    simp at ho
    rw [List.take_succ_eq_append_getElem (by simp; omega)]
    simp [List.take_set_of_le]
theorem setCells_below {w : World} {b : Nat} {B : Nat} (hB : B ≤ b) : ∀ (D : List Value) (o : Nat), Below B w (w.setCells b o D) := by
  intro D
  induction D generalizing w with
  | nil => intro o; exact Below.refl _ _
  | cons d D ih => intro o; exact ((Below.refl B w).setCell (p := ⟨b, o, none⟩) hB d).trans (ih (o + 1))
theorem fill_gen : ∀ (D : List Value) (pre Z : List Value), Z.length = D.length → List.foldl (fun (cs : Array Value) (x : Value × Nat) => cs.setIfInBounds x.snd x.fst) (pre ++ Z).toArray (D.zipIdx pre.length) = (pre ++ D).toArray := by
  intro D
  induction D with
  | nil => intro pre Z h; simp at h; subst h; simp
  | cons d D ih =>
    intro pre Z h
    cases Z with
    | nil => simp at h
    | cons z Z =>
      have := ih (pre ++ [d]) Z (by simpa using h)
      simp only [List.length_append, List.length_cons, List.length_nil, Nat.zero_add, List.append_assoc, List.cons_append, List.nil_append] at this
      rw [List.zipIdx_cons, List.foldl_cons, ← this]
      congr 1
      simp
theorem fill16 (D : List Value) (h : D.length = 16) : List.foldl (fun (cs : Array Value) (x : Value × Nat) => cs.setIfInBounds x.snd x.fst) #[.int .u8 0, .int .u8 0, .int .u8 0, .int .u8 0, .int .u8 0, .int .u8 0, .int .u8 0, .int .u8 0, .int .u8 0, .int .u8 0, .int .u8 0, .int .u8 0, .int .u8 0, .int .u8 0, .int .u8 0, .int .u8 0] D.zipIdx = D.toArray :=
  fill_gen D [] [.int .u8 0, .int .u8 0, .int .u8 0, .int .u8 0, .int .u8 0, .int .u8 0, .int .u8 0, .int .u8 0, .int .u8 0, .int .u8 0, .int .u8 0, .int .u8 0, .int .u8 0, .int .u8 0, .int .u8 0, .int .u8 0] (by rw [h]; rfl)
section
attribute [local go_sem ↓] Go.wp_at_zero Go.wp_at_succ wp_store16 wp_load16
attribute [local go_sem] isRow16_drew get16_drew okLoad_at okStore_at stored16_at loaded16_at
set_option maxRecDepth 100000 in
set_option maxHeartbeats 4000000 in
theorem next_dig (g0 g1 g2 g3 base B0 : Nat) (A : Option Addr) (b : List UInt8) (c used k : Nat) (v : Value) (xs : List (List UInt8)) (w : World)
    (h0 : Blk w g0 138 [.func (.func 94) #[] #[]]) (h1 : Blk w g1 39 [.slice A b.length c]) (h2 : Blk w g2 3 [.int .i64 used]) (h3 : Blk w g3 48 [v])
    (hr : Rd w B0 A (B8 b)) (hc : b.length ≤ c) (hl : b.length ≤ 1099511627776) (hu : used + 16 ≤ b.length)
    (hown : w.ownsRow base 29 16 v k (Dg xs)) (hk : k ≤ 68719476736) (hbase : base ≤ w.heap.size) (hg0 : g0 < base) (hg1 : g1 < base) (hg2 : g2 < base) (hg3 : g3 < base) (h23 : g2 ≠ g3) (h02 : g0 ≠ g2) (h03 : g0 ≠ g3) (h12 : g1 ≠ g2) (h13 : g1 ≠ g3)
    (hB0 : B0 ≤ g0) (hB1 : B0 ≤ g1) (hB2 : B0 ≤ g2) (hB3 : B0 ≤ g3) :
    Calls Tryd.prog 109 #[.pointer (some ⟨g0, 0, none⟩), .pointer (some ⟨g1, 0, none⟩), .pointer (some ⟨g2, 0, none⟩), .pointer (some ⟨g3, 0, none⟩)] w fun e w' =>
      ∃ v', e = .returned (.int .i64 0) ∧ Blk w' g0 138 [.func (.func 94) #[] #[]] ∧ Blk w' g1 39 [.slice A b.length c] ∧ Blk w' g2 3 [.int .i64 ((used + 16 : Nat) : Int)] ∧ Blk w' g3 48 [v'] ∧
        w'.ownsRow base 29 16 v' (k + 1) (Dg (xs ++ [(b.drop used).take 16])) ∧ Below B0 w w' := by
  obtain ⟨i0, hi0, hz0, hz1, hz2⟩ := info_parts Tryd.info29
  have c0 := h0.cell 0
  have c1 := h1.cell 0
  have c2 := h2.cell 0
  have c3 := h3.cell 0
  simp only [List.getElem?_cons_zero] at c0 c1 c2 c3
  have hlen : (b.drop used).length = b.length - used := by simp
  have hsl : ∀ W : World, (Instr.sliceAt 39 (.slice A b.length c) (some (.int .i64 (used : Int))) none none).run Tryd.prog W = .ok (.slice (if c = used then A else A.map (·.add used)) (b.length - used) (c - used)) W := by
    intro W
    have hu : Tryd.prog.underlying 39 = some (.slice (Tryd.prog.elem 39)) := by kernel_rfl
    have he : Tryd.prog.elem 39 = 5 := by kernel_rfl
    have h5 : (sizeOf 5).run Tryd.prog W = .ok 1 W := by kernel_rfl
    rw [run_sliceAt_slice W 39 _ _ _ _ hu, run_slice_l W 39 A b.length c hu .i64 used (by omega) (by omega), he, h5]
    simp [Result.andThen, sliced]
  have hrc := hr.cut used c (by rw [B8_len]; omega) (by rw [B8_len]; omega)
  have hdr : (B8 b).drop used = B8 (b.drop used) := by simp [B8]
  rw [hdr] at hrc
  obtain ⟨A', hA'⟩ : ∃ A', A' = (if c = used then A else A.map (·.add used)) := ⟨_, rfl⟩
  rw [← hA'] at hrc hsl
  have h16 : ((b.drop used).take 16).length = 16 := by rw [List.length_take]; omega
  obtain ⟨D, hd⟩ : ∃ D : List Value, D = B8 ((b.drop used).take 16) := ⟨_, rfl⟩
  have hcall : ∀ W : World, Rd W B0 A' (B8 (b.drop used)) → B0 ≤ W.heap.size → Calls Tryd.prog 94 #[.slice A' (b.length - used) (c - used)] W fun e w' => e = .returned (.tuple #[.agg D.toArray, .int .i64 16, .int .i64 0]) ∧ Below W.heap.size W w' := by
    intro W hW hBW
    have := getDigest_any A' (b.drop used) (c - used) W B0 hW hBW (by omega) (by omega)
    rw [hlen, ← hd] at this
    exact this
  have hDg : Dg (xs ++ [(b.drop used).take 16]) = Dg xs ++ D := by
    rw [hd]; simp [Dg, B8]
  have hD16 : Dig16 D.toArray := ⟨by rw [hd, List.size_toArray, B8_len, h16], by rw [hd]; exact one57 _⟩
  rw [hDg]
  have HC := Lib.hid hcall
  have HR := Lib.hid hrc
  clear hcall hA' hd hlen hdr h16 hDg hrc
  have l0 := h0.lt
  have l1 := h1.lt
  have l2 := h2.lt
  have l3 := h3.lt
  have hnew : ∀ W : World, isRow16 (W.alloc (.cells #[.int .u8 0, .int .u8 0, .int .u8 0, .int .u8 0, .int .u8 0, .int .u8 0, .int .u8 0, .int .u8 0, .int .u8 0, .int .u8 0, .int .u8 0, .int .u8 0, .int .u8 0, .int .u8 0, .int .u8 0, .int .u8 0] 29)) W.heap.size := fun W => isRow16_new W _ rfl
  go_enter Tryd.func109, Tryd.ntmps109
  go_upto_region 1 with (fail)
  go_cut [5, 6, 7] (fun s5 s6 s7 wx => ∃ gd, s5 = .pointer (some ⟨gd, 0, none⟩) ∧ s6 = .int .i64 16 ∧ s7 = .int .i64 0 ∧ Blk wx gd 29 D ∧ Below w.heap.size w wx ∧ w.heap.size ≤ gd)
  case first =>
    clear hi0 hz0 hz1 hz2 hnew
    have hI : (Tryd.prog.info? 29).map (·.size) = some D.length := by rw [← List.size_toArray, hD16.1]; kernel_rfl
    have hU := Tryd.underlying29
    have hL : D.length = 16 := hD16.1
    have hO : ∀ v ∈ D, v.oneCell' = true := fun v hv => Array.all_eq_true_iff_forall_mem.1 hD16.2 v (by simpa using hv)
    go_region_held3 (fun w' => w'.cell? ⟨g0, 0, none⟩ = some (.func (.func 94) #[] #[]) ∧ w'.cell? ⟨g1, 0, none⟩ = some (.slice A b.length c) ∧ w'.cell? ⟨g2, 0, none⟩ = some (.int .i64 used))
      (first
        | go_keep
        | (go_split_ands
           refine ⟨?_, ?_, ?_⟩ <;> (first
             | assumption
             | (rw [(keepS hB l0 (.map #[] 0) D).1]; assumption) | (rw [(keepS hB l1 (.map #[] 0) D).1]; assumption) | (rw [(keepS hB l2 (.map #[] 0) D).1]; assumption)
             | (rw [(keepS hB l0 _ D).2.1]; assumption) | (rw [(keepS hB l1 _ D).2.1]; assumption) | (rw [(keepS hB l2 _ D).2.1]; assumption)
             | (rw [(keepS hB l0 _ D).2.2.1]; assumption) | (rw [(keepS hB l1 _ D).2.2.1]; assumption) | (rw [(keepS hB l2 _ D).2.2.1]; assumption)
             | (rw [(keepS hB l0 (.map #[] 0) D).2.2.2]; assumption) | (rw [(keepS hB l1 (.map #[] 0) D).2.2.2]; assumption) | (rw [(keepS hB l2 (.map #[] 0) D).2.2.2]; assumption))))
      ((go_at_call 94; refine (HC.out _ ?_ ?_).mono ?_; (exact HR.out.keep (fun p hp => by simp [World.cell?_alloc_lt, show p.block < w.heap.size by omega])); (simp; omega); rintro e w1 ⟨rfl, hb1⟩; have hB : Below w.heap.size w w1 := (by first | exact ⟨hb1.os, hb1.tape, hb1.output, hb1.size, hb1.block⟩ | exact ((Below.refl _ _).alloc (Nat.le_refl _) _).trans ⟨hb1.os, hb1.tape, hb1.output, hb1.size, fun k hk => hb1.block k (by simp; omega)⟩); (have hT1 : (w1.alloc (.cells #[.int .u8 0, .int .u8 0, .int .u8 0, .int .u8 0, .int .u8 0, .int .u8 0, .int .u8 0, .int .u8 0, .int .u8 0, .int .u8 0, .int .u8 0, .int .u8 0, .int .u8 0, .int .u8 0, .int .u8 0, .int .u8 0] 29)).there w1.heap.size 0 16 := there_new w1 _ _ rfl); (try (have hq : w1.there w.heap.size 0 16 := there_of ((hb1.block w.heap.size (by simp)).trans (heap_alloc_new w _)) rfl))))
    · go_wp2_with fail
      go_meet
      have hbk := setCells_block (t := 29) D 0 [.int .u8 0, .int .u8 0, .int .u8 0, .int .u8 0, .int .u8 0, .int .u8 0, .int .u8 0, .int .u8 0, .int .u8 0, .int .u8 0, .int .u8 0, .int .u8 0, .int .u8 0, .int .u8 0, .int .u8 0, .int .u8 0] (heap_alloc_new w1 _) (by rw [hL]; rfl)
      exact ⟨_, rfl, rfl, rfl, by simpa [Blk] using hbk, (hB.alloc hB.size _).trans (setCells_below hB.size D 0), hB.size⟩
    · go_wp2_with fail
      go_meet
      have hbk := setCells_block (t := 29) D 0 [.int .u8 0, .int .u8 0, .int .u8 0, .int .u8 0, .int .u8 0, .int .u8 0, .int .u8 0, .int .u8 0, .int .u8 0, .int .u8 0, .int .u8 0, .int .u8 0, .int .u8 0, .int .u8 0, .int .u8 0, .int .u8 0] ((hb1.block w.heap.size (by simp)).trans (heap_alloc_new w _)) (by rw [hL]; rfl)
      exact ⟨_, rfl, rfl, rfl, by simpa [Blk] using hbk, hB.trans (setCells_below (Nat.le_refl _) D 0), Nat.le_refl _⟩
  case rest =>
    obtain ⟨gd, rfl, rfl, rfl, hgd, hbw, hge⟩ := hcut
    have k0 := h0.below hbw l0
    have k1 := h1.below hbw l1
    have k2 := h2.below hbw l2
    have k3 := h3.below hbw l3
    have hown' := own_below hown hbw
    have hbel : Below B0 w wc := hbw.mono (by omega)
    have hbase' : base ≤ wc.heap.size := Nat.le_trans hbase hbw.size
    have hrow : isRow16 wc gd := ⟨D.toArray, hgd, hD16.1⟩
    have hget : get16 wc gd = D.toArray := by unfold Blk at hgd; simp [get16, hgd]
    have HD := Lib.hid hD16
    have hDl : D.length = 16 := hD16.1
    have hfill := fill16 D hDl
    clear h0 h1 h2 h3 hown hbase c0 c1 c2 c3 hsl HC HR hr hbw hgd hnew l0 l1 l2 l3 hD16
    have c2 : wc.cell? ⟨g2, 0, none⟩ = some (.int .i64 used) := k2.cell 0
    have c3 : wc.cell? ⟨g3, 0, none⟩ = some v := k3.cell 0
    have hne2 : v.ownBlock ≠ some g2 := fun e => by have := (hown'.lt _ e).1; omega
    have hne3 : v.ownBlock ≠ some g3 := fun e => by have := (hown'.lt _ e).1; omega
    have l2 := k2.lt
    have l3 := k3.lt
    go_wp2_with fail
    go_region_law
      ((refine step_append_lies _ (by rfl) _ _ _ (by rfl) base 29 i0 _ 16 16 Tryd.underlying48 hi0 hz0 hz1 hz2 rfl (by omega) v k (Dg xs) (by rfl) ((hown'.alloc _).drew)
            ⟨wc.heap.size, 0, none⟩ 1 1 D (by rfl) HD.out.1 (World.news_of_block (cs := D.toArray) (t := 29) (fr := (0, 0)) (heap_alloc_new wc _)) (fun v hv => Array.all_eq_true_iff_forall_mem.1 HD.out.2 v (by simpa using hv))
            (by omega) (by unfold maxLen; omega) (by omega) (by simp; omega) (wc.heap.size + 1) (by simp) ?_; intro gg cap w1 hown1 hgrow hat hlt; have e3 : w1.cell? ⟨g3, 0, none⟩ = some v := (by rw [hgrow.cell_far _ (by simp; omega) (Ne.symm hne3)]; simpa using (k3.alloc _).cell 0); have e2 : w1.cell? ⟨g2, 0, none⟩ = some (.int .i64 used) := (by rw [hgrow.cell_far _ (by simp; omega) (Ne.symm hne2)]; simpa using (k2.alloc _).cell 0); have f3 : w1.frozen? ⟨g3, 0, none⟩ = false := (by rw [hgrow.frozen_far _ (by simp; omega) (Ne.symm hne3)]; exact (k3.alloc _).frozen 0); have f2 : w1.frozen? ⟨g2, 0, none⟩ = false := (by rw [hgrow.frozen_far _ (by simp; omega) (Ne.symm hne2)]; exact (k2.alloc _).frozen 0)))
    all_goals
      go_wp2
      go_ret
      have hw : IntKind.i64.wrap ((used : Int) + 16) = ((used + 16 : Nat) : Int) := by rw [IntKind.wrap_i64]; omega
      have E := next_end (V4 := .int .i64 (IntKind.i64.wrap ((used : Int) + 16))) k0 k1 k2 k3 hbel hown' hg0 hg1 hg2 hg3 h23 h02 h03 h12 h13 hB0 hB1 hB2 hB3 hown1 (ns := D) (tv := 29) hgrow
      exact ⟨_, rfl, E.1, E.2.1, by rw [← hw]; exact E.2.2.1, E.2.2.2.1, E.2.2.2.2.1, E.2.2.2.2.2⟩
end
end Go.Proofs.YtofccgkgjcnfbaaDoor.W1
