/-
  The contract of the reference's SameDigests: true where the lists are equal.
  No condition but that the slices can be read.
-/
import Derived.Test.YtooanlmmplbnoaaSame
import Derived.Test.YtooanlmmplbnoaaNextD
import Derived.Deep.RegionHeld3
import Derived.Deep.MidRow
import Derived.ChangeKeysEq
import Derived.Laws.StructEq
namespace Go.Proofs.Ytooanlmmplbnoaa
open Go.RowKit Wr
set_option linter.unusedVariables false

theorem part5 (d : List UInt8) (i : Nat) (hi : i < d.length) (w : World) : (part 5 (B8 d).toArray (i * Try.prog.cellsOf 5)).run Try.prog w = .ok (.int .u8 (d[i].toNat : Int)) w := by
  have hc : Try.prog.cellsOf 5 = 1 := by kernel_rfl
  have ha : (isAgg 5).run Try.prog w = .ok false w := by kernel_rfl
  rw [hc, Nat.mul_one]
  simp [part, ha, B8, hi]
theorem eq5 (D : Nat) (n : Int) (w : World) : (Op.equalIn (D + 1) 5 (.int .u8 n) (.int .u8 n)).run Try.prog w = .ok true w := by
  simp [Op.equalIn, run_underlying Try.underlying5]
theorem items16 (D : Nat) (d : List UInt8) (w : World) : ∀ is : List Nat, (∀ i ∈ is, i < d.length) → (Op.eqItems (D + 1) 5 (Try.prog.cellsOf 5) (B8 d).toArray (B8 d).toArray is).run Try.prog w = .ok true w := by
  intro is
  induction is with
  | nil => intro _; simp [Op.eqItems]
  | cons i is ih =>
    intro h
    have hi := h i (by simp)
    simp only [Op.eqItems, Sem.run_bind, part5 d i hi w, Result.andThen_ok]
    rw [eq5]
    simpa using ih (fun j hj => h j (by simp [hj]))
theorem neq57 (d : List UInt8) (hd : d.length = 16) (w : World) : (binOp .neq 57 (.agg (B8 d).toArray) (.agg (B8 d).toArray)).run Try.prog w = .ok (.bool false) w := by
  have hi : ∃ i, Try.prog.info? 5 = some i := by
    obtain ⟨i0, hi0, _⟩ := info_parts Try.info5
    exact ⟨i0, hi0⟩
  obtain ⟨i0, hi0⟩ := hi
  rw [run_neq_struct, show (10000 : Nat) = 9999 + 1 from rfl, run_equalIn_array w 9999 _ _ Try.underlying57 hi0, show (9999 : Nat) = 9998 + 1 from rfl, items16 9998 d w _ (by intro i hi; rw [hd]; exact List.mem_range.1 hi)]
  rfl

/-- Sixteen cells lie in block b from o on, and what they are. -/
def okAt (w : World) (b o : Nat) : Prop := ∀ j, j < 16 → (w.cell? ⟨b, o + j, none⟩).isSome = true
def getAt (w : World) (b o : Nat) : Array Value := ((List.range 16).map fun j => (w.cell? ⟨b, o + j, none⟩).getD undef).toArray
def okLoadAt (w : World) (x : Value) : Prop := ∃ b o, x = .pointer (some ⟨b, o, none⟩) ∧ okAt w b o
def loadedAt (w : World) (x : Value) : Array Value := match x with
  | .pointer (some a) => getAt w a.block a.off
  | _ => #[]
theorem okAt_drew (w : World) (b o : Nat) : okAt w.drew b o = okAt w b o := rfl
theorem getAt_drew (w : World) (b o : Nat) : getAt w.drew b o = getAt w b o := rfl
theorem okLoadAt_at (w : World) (b o : Nat) : okLoadAt w (.pointer (some ⟨b, o, none⟩)) = okAt w b o := by
  apply propext
  constructor
  · rintro ⟨b', o', h, hr⟩
    simp only [Value.pointer.injEq, Option.some.injEq, Addr.mk.injEq, and_true] at h
    obtain ⟨rfl, rfl⟩ := h; exact hr
  · exact fun h => ⟨b, o, rfl, h⟩
theorem loadedAt_at (w : World) (b o : Nat) : loadedAt w (.pointer (some ⟨b, o, none⟩)) = getAt w b o := rfl
theorem wp_loadAt {a : Act} {w : World} {K : Act → World → Prop} {Q : Exit → Act → World → Prop} (dst : Option Nat) (x : Operand) (t : TypeId) (pos : String) (after : Array Edge) (h : okLoadAt w (a.eval x)) :
    Oper.wp Try.prog ⟨dst, .load 57 x, t, pos, after, none⟩ a w K Q = K (a.put dst (.agg (loadedAt w (a.eval x)))) w := by
  obtain ⟨b, o, hx, hr⟩ := h
  have hc : w.rangeAt b o ((List.range 16).map fun j => (w.cell? ⟨b, o + j, none⟩).getD undef) := fun j v hv => by
    rw [List.getElem?_map] at hv
    have hj : j < 16 := by
      rcases Nat.lt_or_ge j 16 with h | h
      · exact h
      · rw [List.getElem?_eq_none (by simpa using h)] at hv; cases hv
    rw [List.getElem?_range hj] at hv
    obtain ⟨u, hu⟩ := Option.isSome_iff_exists.1 (hr j hj)
    simp only [Option.map_some, Option.some.injEq] at hv
    rw [hu] at hv ⊢
    rw [← hv]; rfl
  have hs : (Try.prog.info? 57).map (·.size) = some ((List.range 16).map fun j => (w.cell? ⟨b, o + j, none⟩).getD undef).length := by rw [List.length_map, List.length_range]; kernel_rfl
  unfold Oper.wp execOp
  simp only [hx, loadedAt, Instr.loadAt, Instr.sureAddr, Sem.run_bind, Sem.run_pure, Result.andThen_ok, run_loadVar_mid (P := Try.prog) w b o 57 _ (.array 16 5) hc Try.underlying57 rfl hs]
  rfl
theorem range_facts {w : World} {b o : Nat} {D : List Value} (h : ∀ j u, D[j]? = some u → w.cell? ⟨b, o + j, none⟩ = some u) (hl : D.length = 16) : okAt w b o ∧ getAt w b o = D.toArray := by
  constructor
  · intro j hj
    rw [h j D[j] (List.getElem?_eq_getElem (by omega))]; rfl
  · unfold getAt
    congr 1
    apply List.ext_getElem
    · simp [hl]
    · intro j h1 h2
      simp only [List.getElem_map, List.getElem_range]
      rw [h j D[j] (List.getElem?_eq_getElem h2)]; rfl

section
attribute [local go_sem ↓] Go.wp_at_zero Go.wp_at_succ wp_loadAt
attribute [local go_sem] okAt_drew getAt_drew okLoadAt_at loadedAt_at

set_option maxRecDepth 100000 in
set_option maxHeartbeats 1000000 in
theorem sameDigests_any (A A2 : Option Addr) (l : List (List UInt8)) (c c2 : Nat) (w : World) (B : Nat) (hr : Rd w B A (Dg l)) (hr2 : Rd w B A2 (Dg l)) (hl : l.length ≤ 1099511627776) (hdg : ∀ x ∈ l, okDig x) :
    Calls Try.prog 36 #[.slice A l.length c, .slice A2 l.length c2] w fun e w' => e = .returned (.bool true) ∧ ∃ q, w' = w.drewN q := by
  obtain ⟨N, hN⟩ : ∃ N, N = l.length := ⟨_, rfl⟩
  rw [← hN] at hl ⊢
  have HN := Lib.hid hN
  have HG := Lib.hid hdg
  have hb0 : ((N : Int) != (N : Int)) = false := by simp
  clear hN hdg
  go_enter Try.func36, Try.ntmps36
  go_wp2_with fail
  go_loopw [5] (fun s5 wr => ∃ k q : Nat, k ≤ N ∧ s5 = .int .i64 k ∧ w.drewN q = wr) (fun s5 _ => N - (intOf s5).toNat)
  case atStart => exact ⟨0, 0, Nat.zero_le _, rfl, rfl⟩
  case round =>
    obtain ⟨k, q, hk, rfl, rfl⟩ := hrel
    by_cases hlt : k < N
    · have hka : k < l.length := by have := HN.out; omega
      have hfl := flat_len l HG.out
      obtain ⟨g, o, rfl, hg, hcell⟩ := hr (by intro e; have := congrArg List.length e; simp only [Dg, B8, List.length_map, List.length_nil] at this; omega)
      obtain ⟨g2, o2, rfl, hg2, hcell2⟩ := hr2 (by intro e; have := congrArg List.length e; simp only [Dg, B8, List.length_map, List.length_nil] at this; omega)
      have h16 : l[k].length = 16 := HG.out _ (List.getElem_mem _)
      obtain ⟨W, hW⟩ : ∃ W, W = w.drewN q := ⟨_, rfl⟩
      have hl16 : (B8 l[k]).length = 16 := by rw [B8_len, h16]
      have f1 := range_facts (w := W) (b := g) (o := o + k * 16) (D := B8 l[k]) (fun j u hu => by rw [hW, Nat.add_assoc]; exact hcell _ u (Dg_at l HG.out k hka j u hu)) hl16
      have f2 := range_facts (w := W) (b := g2) (o := o2 + k * 16) (D := B8 l[k]) (fun j u hu => by rw [hW, Nat.add_assoc]; exact hcell2 _ u (Dg_at l HG.out k hka j u hu)) hl16
      have hne := neq57 l[k] h16
      obtain ⟨D, hD⟩ : ∃ D : Array Value, D = (B8 l[k]).toArray := ⟨_, rfl⟩
      rw [← hD] at f1 f2 hne
      obtain ⟨f1, f3⟩ := f1
      obtain ⟨f2, f4⟩ := f2
      have HW := Lib.hid hW
      rw [← hW]
      clear hl16
      have i0 : (0 : Int) ≤ (k : Int) := Int.natCast_nonneg _
      have i1 : (k : Int) < (N : Int) := by omega
      clear hcell hcell2 hr hr2 hW hD h16 hfl
      go_wp2_with fail
      go_region_law (fail)
      all_goals
        go_wp2_with fail
        go_roundw
        case rel => exact ⟨k + 1, q + 1, hlt, by go_num, by rw [HW.out]; rfl⟩
        case measure => simp only [intOf]; omega
    · obtain rfl : k = N := by omega
      go_wp2_with fail
      go_ret
      exact ⟨rfl, q, rfl⟩
end
end Go.Proofs.Ytooanlmmplbnoaa
