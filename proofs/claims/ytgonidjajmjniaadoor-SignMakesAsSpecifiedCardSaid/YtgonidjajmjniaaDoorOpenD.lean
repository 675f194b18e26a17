/-
  A digest that came in by value, as a list of bytes; and back.
  No condition.
-/
import Derived.Test.YtgonidjajmjniaaDoorFrame
import Derived.DataShut
namespace Go.Proofs.YtgonidjajmjniaaDoor
open Go.ChangeShapes Go.WideShapes Go.RowKit Wr Sh
set_option linter.unusedVariables false
set_option maxRecDepth 100000
section
variable {H : Type} {enc : TypeId × Value → H} {w : World} {base : Nat} {sp : Nat → Bool} {held : Bool}
theorem okWide_array {P : Program} {r : Reach} {b0 : Nat} {t e : TypeId} {n : Nat} {v : Value} (ht : P.underlying t = some (.array n e)) (h : Value.okWide P w r b0 t v) : ∃ cs, v = .agg cs ∧ cs.size = P.cellsOf t := by
  simp only [Value.okWide, ht] at h
  obtain ⟨cs, h1, h2, _⟩ := h
  exact ⟨cs, h1, h2⟩
theorem cells23 : Tryd.prog.cellsOf 23 = 16 := by kernel_rfl
theorem cells5 : Tryd.prog.cellsOf 5 = 1 := by kernel_rfl
def lit8 (L : List UInt8) : DataW H := .agg (L.map fun c => .lit (.int .u8 (c.toNat : Int)))
theorem wf8 (c : UInt8) : (Lit.int .u8 (c.toNat : Int)).wf = true := by
  have := c.toNat_lt
  simp [Lit.wf, IntKind.min, IntKind.max, IntKind.signed, IntKind.bits]
  omega
theorem open_byte {r : Reach} {b0 : Nat} {v : Value} {d : DataW H} {p : List MemPlace} (hv : Value.okWide Tryd.prog w r b0 5 v) (h : DataW.Trod enc Tryd.prog w base sp held 5 v d p) :
    ∃ c : UInt8, v = .int .u8 (c.toNat : Int) ∧ d = .lit (.int .u8 (c.toNat : Int)) ∧ p = [] ∧ (Lit.int .u8 (c.toNat : Int)).wf = true := by
  obtain ⟨n, rfl, rfl, rfl, hw⟩ := open_int Tryd.underlying5 hv h
  have hb := bounds_u8 hw
  have e : ((UInt8.ofNat n.toNat).toNat : Int) = n := by rw [UInt8.toNat_ofNat']; omega
  exact ⟨UInt8.ofNat n.toNat, by rw [e], by rw [e], rfl, by rw [e]; exact hw⟩
theorem open_dig {r : Reach} {b0 : Nat} {v : Value} {d : DataW H} {p : List MemPlace} (hv : Value.okWide Tryd.prog w r b0 23 v) (h : DataW.Trod enc Tryd.prog w base sp held 23 v d p) :
    ∃ L : List UInt8, L.length = 16 ∧ v = .agg (B8 L).toArray ∧ d = lit8 L ∧ p = [] := by
  obtain ⟨cs, rfl, hsz⟩ := okWide_array Tryd.underlying23 hv
  rw [cells23] at hsz
  obtain ⟨fuel, hf⟩ := h
  obtain ⟨xs, m, rfl, hx, hl, hxl, hfi⟩ := DataW.trod_array Tryd.underlying23 hf
  have hcell : ∀ i, i < 16 → ∃ c : UInt8, cs.toList[i]? = some (.int .u8 (c.toNat : Int)) ∧ xs[i]? = some (.lit (.int .u8 (c.toNat : Int)), []) := by
    intro i hi
    have h1 := hfi i hi
    rw [cells5, Nat.mul_one, List.getElem?_eq_getElem (by omega : i < xs.length)] at h1
    obtain ⟨n, h2, h3, h4⟩ := DataW.trod_int Tryd.underlying5 h1
    have hi2 : i < cs.toList.length := by simp; omega
    simp only [Value.cells] at h2
    rw [List.drop_eq_getElem_cons hi2, List.take_succ_cons, List.take_zero] at h2
    simp only [List.cons.injEq, and_true] at h2
    have hb := bounds_u8 h4
    refine ⟨UInt8.ofNat n.toNat, ?_, ?_⟩
    · rw [List.getElem?_eq_getElem hi2, h2]
      congr 2
      rw [UInt8.toNat_ofNat']; omega
    · rw [List.getElem?_eq_getElem (by omega : i < xs.length), h3]
      have : ((UInt8.ofNat n.toNat).toNat : Int) = n := by rw [UInt8.toNat_ofNat']; omega
      rw [this]
  let L : List UInt8 := cs.toList.map fun v => match v with | .int _ n => UInt8.ofNat n.toNat | _ => 0
  have hLl : L.length = 16 := by simp [L, hsz]
  have hLi : ∀ i, i < 16 → ∃ c : UInt8, L[i]? = some c ∧ cs.toList[i]? = some (.int .u8 (c.toNat : Int)) ∧ xs[i]? = some (.lit (.int .u8 (c.toNat : Int)), []) := by
    intro i hi
    obtain ⟨c, h1, h2⟩ := hcell i hi
    refine ⟨c, ?_, h1, h2⟩
    simp only [L, List.getElem?_map, h1, Option.map_some]
    congr 1
    apply UInt8.toNat_inj.1
    rw [UInt8.toNat_ofNat']
    have := c.toNat_lt
    omega
  simp only [Prod.mk.injEq] at hx
  refine ⟨L, hLl, ?_, ?_, ?_⟩
  · congr 1
    apply Array.ext'
    apply List.ext_getElem?
    intro i
    rcases Nat.lt_or_ge i 16 with hi | hi
    · obtain ⟨c, h1, h2, _⟩ := hLi i hi
      rw [h2]
      simp [B8, h1]
    · rw [List.getElem?_eq_none (by simp; omega), List.getElem?_eq_none (by simp [B8, hLl]; omega)]
  · rw [hx.1]
    unfold lit8
    congr 1
    apply List.ext_getElem?
    intro i
    rcases Nat.lt_or_ge i 16 with hi | hi
    · obtain ⟨c, h1, _, h3⟩ := hLi i hi
      simp [h1, h3]
    · rw [List.getElem?_eq_none (by simp; omega), List.getElem?_eq_none (by simp [hLl]; omega)]
  · rw [hx.2, List.flatMap_eq_nil_iff]
    intro y hy
    obtain ⟨i, hi, rfl⟩ := List.mem_iff_getElem.1 hy
    obtain ⟨c, _, _, h3⟩ := hLi i (by omega)
    rw [List.getElem?_eq_getElem hi] at h3
    simp only [Option.some.injEq] at h3
    rw [h3]
theorem shut_dig (L : List UInt8) (hL : L.length = 16) : DataW.Trod enc Tryd.prog w base sp held 23 (.agg (B8 L).toArray) (lit8 L) [] := by
  refine ⟨2, ?_⟩
  have hm : (List.range 16).mapM (fun i => DataW.trod enc Tryd.prog w base sp held 1 5 (((B8 L).drop (i * 1)).take 1)) = some (L.map fun c => ((.lit (.int .u8 (c.toNat : Int)) : DataW H), ([] : List MemPlace))) := by
    refine mapM_some_of_get _ _ (by simp [hL]) (fun i x hx => ?_)
    obtain ⟨hi, rfl⟩ := List.getElem?_eq_some_iff.1 hx
    simp only [List.length_range] at hi
    simp only [List.getElem_range, Nat.mul_one]
    have hi2 : i < (B8 L).length := by rw [B8_len, hL]; exact hi
    rw [List.drop_eq_getElem_cons hi2, List.take_succ_cons, List.take_zero]
    have hg : (B8 L)[i] = .int .u8 ((L[i]'(by omega)).toNat : Int) := by simp [B8]
    rw [hg, trod_int_mk 0 Tryd.underlying5 (wf8 _)]
    simp [hL, hi]
  have hc : (Value.agg (B8 L).toArray).cells.toList = B8 L := by simp [Value.cells]
  rw [hc]
  unfold DataW.trod
  rw [Tryd.underlying23]
  simp only [cells23, cells5, B8_len, hL, if_true, hm]
  simp [lit8]
end
end Go.Proofs.YtgonidjajmjniaaDoor
