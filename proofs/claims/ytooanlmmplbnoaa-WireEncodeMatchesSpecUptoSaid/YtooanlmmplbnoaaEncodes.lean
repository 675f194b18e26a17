/-
  The law WireEncodeMatchesSpec returns true for every integer, string and list whose bulk is at most 1048576, and leaves its arguments as they were.
  Condition: the bound of the statement '..UptoSaid' as it was given, and no other.
-/
import Derived.Test.YtooanlmmplbnoaaRows
import Derived.Test.YtooanlmmplbnoaaLawH
import Derived.Test.YtooanlmmplbnoaaBulk
import Derived.WalkKit
import Derived.ProofKit
import Derived.OpenShut
import Derived.ShutString
import Derived.ChangeOld
import Derived.JoinedCond
import Derived.Below
namespace Go.Proofs.Ytooanlmmplbnoaa.wireEncodeMatchesSpec
open Go.ChangeShapes Go.WideShapes Go.ChangeAt Go.RowKit
open Go.ChangeMaps (open_string shut_string)
set_option linter.unusedVariables false

theorem own : ownKnob Try.prog.godebug = none := by kernel_rfl
theorem laidOut : laidOutB Try.prog = true := by kernel_rfl

set_option maxRecDepth 100000 in
theorem contract (H : Type) (enc : TypeId × Value → H) (W : World) (base : Nat) (args : Array Value) (ds gs : List (DataW H)) (before : List MemPlace)
    (hval0 : ∀ (j : Nat) t v, Try.f3.params[j]? = some t → args[j]? = some v → Value.okWide Try.prog W .any base t v)
    (hW : DataW.Whole enc Try.prog Try.f3.params.toList Rows.wireEncodeMatchesSpecSpec.vars false W args.toList ds gs before) (hk : Rows.uptoSmall H (ds ++ gs) = true) :
    Calls Try.prog 3 args W fun e W' => ∃ v, e = .returned v ∧ Rows.wireEncodeMatchesSpecSpec.post enc Try.prog Try.f3 false true false false W args v W' := by
  have hval : ∀ (j : Nat) t v, Try.f3.params[j]? = some t → args[j]? = some v → Value.okWide Try.prog W .any base t v := hval0
  have hW' := hW
  obtain ⟨p, q, hA0, hV, rfl, hfz, hnd⟩ := hW
  have hA : DataW.TrodAll enc Try.prog W 0 (fun _ => true) true Try.f3.params.toList args.toList ds p := hA0
  rw [Try.params3] at hA hval
  obtain ⟨v0, vs0, d0, ds0, p0, q0, hargs, rfl, rfl, h0, r0⟩ := trodAll_cons hA
  obtain ⟨v1, vs1, d1, ds1, p1, q1, rfl, rfl, rfl, h1, r1⟩ := trodAll_cons r0
  obtain ⟨v2, vs2, d2, ds2, p2, q2, rfl, rfl, rfl, h2, r2⟩ := trodAll_cons r1
  obtain ⟨v3, vs3, d3, ds3, p3, q3, rfl, rfl, rfl, h3, r3⟩ := trodAll_cons r2
  obtain ⟨v4, vs4, d4, ds4, p4, q4, rfl, rfl, rfl, h4, r4⟩ := trodAll_cons r3
  obtain ⟨rfl, rfl, rfl⟩ := trodAll_nil r4
  obtain rfl : args = #[v0, v1, v2, v3, v4] := by cases args; simp_all
  obtain ⟨rfl, rfl⟩ := trodVars_none hV
  have hbulk := bulk_all hk
  have u1 : Rows.uptoBulk d1 ≤ 1048576 := Nat.le_trans (bulk_in (by simp)) hbulk
  have u2 : Rows.uptoBulk d2 ≤ 1048576 := Nat.le_trans (bulk_in (by simp)) hbulk
  have u3 : Rows.uptoBulk d3 ≤ 1048576 := Nat.le_trans (bulk_in (by simp)) hbulk
  have u4 : Rows.uptoBulk d4 ≤ 1048576 := Nat.le_trans (bulk_in (by simp)) hbulk
  obtain ⟨a0, rfl, rfl, rfl, w0⟩ := open_int Try.underlying3 (hval 0 3 v0 rfl rfl) h0
  obtain ⟨a1, rfl, hd1, rfl, w1⟩ := open_string Try.underlying9 (hval 1 9 v1 rfl rfl) h1
  have s1 : a1.size ≤ 1048576 := by
    rw [hd1, Rows.uptoBulk] at u1
    rw [← size_list]; omega
  obtain ⟨a2, len2, cap2, rfl⟩ := okWide_slice Try.underlying22 (hval 2 22 v2 rfl rfl)
  obtain ⟨a3, len3, cap3, rfl⟩ := okWide_slice Try.underlying23 (hval 3 23 v3 rfl rfl)
  obtain ⟨a4, len4, cap4, rfl⟩ := okWide_slice Try.underlying24 (hval 4 24 v4 rfl rfl)
  have k2 := h2
  have lt2 : ∀ x ∈ p2, x.block < W.heap.size := by obtain ⟨m, hm⟩ := k2; exact DataW.trod_lt m _ _ _ hm
  have k3 := h3
  have lt3 : ∀ x ∈ p3, x.block < W.heap.size := by obtain ⟨m, hm⟩ := k3; exact DataW.trod_lt m _ _ _ hm
  have k4 := h4
  have lt4 : ∀ x ∈ p4, x.block < W.heap.size := by obtain ⟨m, hm⟩ := k4; exact DataW.trod_lt m _ _ _ hm
  obtain ⟨z2, r2', hl2⟩ : ∃ zs, InRow .i64 W a2 len2 cap2 zs ∧ len2 ≤ 281474976710656 := by
    obtain ⟨fuel, hf⟩ := h2
    rcases open_ints Try.underlying22 Try.underlying3 (by kernel_rfl) hf with ⟨hcs, _⟩ | ⟨x, l, c, zs, hcs, _, hl, hm, hz, hx, hcell, hwz⟩
    · simp [Value.cells] at hcs
      obtain ⟨rfl, rfl, rfl⟩ := hcs
      exact ⟨[], .inl ⟨rfl, rfl, rfl, rfl⟩, by omega⟩
    · simp [Value.cells] at hcs
      obtain ⟨rfl, rfl, rfl⟩ := hcs
      simp only [Prod.mk.injEq] at hx
      have hz2 : zs.length = cap2 := by simpa using hz
      have hb := bulk_slice (H := H) (lits .i64 (zs.take len2)) (lits .i64 (zs.drop len2))
      rw [hx.1] at u2
      simp only [lits, List.length_map, List.length_take] at hb u2
      exact ⟨zs, .inr ⟨_, rfl, hl, hm, hz2, hcell, hwz⟩, by omega⟩
  obtain ⟨x3, e3, lc3, rd3, hs3⟩ : ∃ l : List ByteArray, l.length = len3 ∧ len3 ≤ cap3 ∧ Wr.Rd W W.heap.size a3 (St l) ∧ sumTo l l.length ≤ 4611686018427387904 := by
    obtain ⟨fuel, hf⟩ := h3
    obtain ⟨l, hl1, hl2, hl3, hl4, _, sp, hsp, hd⟩ := strs_rd Try.underlying23 Try.underlying9 (by kernel_rfl) hf
    rcases hd with ⟨_, h0⟩ | hd
    · subst h0
      obtain rfl := List.eq_nil_of_length_eq_zero hl1
      exact ⟨[], rfl, hl2, Wr.Rd.nil, by simp [sumTo]⟩
    · have hd3 : d3 = _ := hd
      rw [hd3] at u3
      have := bulk_texts (H := H) l sp
      exact ⟨l, hl1, hl2, hl4, by unfold sumTo; rw [List.take_length]; omega⟩
  obtain ⟨x4, e4, lc4, rd4, ok4, hl4⟩ : ∃ l : List (List UInt8), l.length = len4 ∧ len4 ≤ cap4 ∧ Wr.Rd W W.heap.size a4 (Dg l) ∧ (∀ y ∈ l, Wr.okDig y) ∧ len4 ≤ 281474976710656 := by
    obtain ⟨fuel, hf⟩ := h4
    obtain ⟨l, hl1, hl2, hl3, hl4, hok, hd⟩ := digs_rd Try.underlying24 Try.underlying57 Try.underlying5 (by kernel_rfl) (by kernel_rfl) hf
    rcases hd with ⟨_, h0⟩ | ⟨es, sp, g1, g2, hd⟩
    · exact ⟨l, hl1, hl2, hl4, hok, by omega⟩
    · have hd4 : d4 = _ := hd
      rw [hd4] at u4
      have := bulk_slice es sp
      exact ⟨l, hl1, hl2, hl4, hok, by omega⟩
  clear hA0 hval0
  obtain ⟨y2, e2, lc2, _, rd2, ok2⟩ := in_ints r2'
  subst e2 e3 e4
  refine (encode_walk a0 a1 a2 a3 a4 y2 x3 x4 cap2 cap3 cap4 W (bounds_i64 w0).1 (bounds_i64 w0).2 (by omega) hl2 hl4 hs3 rd2 rd3 rd4 lc2 lc3 lc4 ok2 ok4).mono fun e W' ⟨he, bel⟩ => ?_
  subst he
  subst hd1
  exact ⟨_, rfl, _, _, _, [], _, [], hW', trodAll_mk1 (shut_bool Try.underlying4 _), (trodAll_cons_mk (shut_int Try.underlying3 w0) (trodAll_cons_mk (shut_string Try.underlying9 w1) (trodAll_cons_mk (Below.trod laidOut (by kernel_rfl) (of_decide_eq_true (by kernel_rfl)) k2 bel lt2) (trodAll_cons_mk (Below.trod laidOut (by kernel_rfl) (of_decide_eq_true (by kernel_rfl)) k3 bel lt3) (trodAll_cons_mk (Below.trod laidOut (by kernel_rfl) (of_decide_eq_true (by kernel_rfl)) k4 bel lt4) trodAll_mk0))))), rfl, bel.frame _, fun h => by cases h⟩

set_option maxRecDepth 100000 in
theorem lifted (os : Os) (started : os.Started) (H : Type) (enc : TypeId × Value → H) (F : Stop.Interp) :
    ReturnsInHanded {} Try.checked os 3 .any ((Rows.OpenSpec.upto Rows.wireEncodeMatchesSpecSpec).pre6 enc Try.prog Try.f3 Rows.wireEncodeMatchesSpecUptoRow.domain false) (((Rows.OpenSpec.upto Rows.wireEncodeMatchesSpecSpec).at F).post enc Try.prog Try.f3 false true false false) := by
  refine returnsInHanded_of_cond (C := Try.checked) (s := Rows.OpenSpec.upto Rows.wireEncodeMatchesSpecSpec) (k := Rows.uptoSmall) rfl own started (by kernel_rfl) Try.func3
    (OpenSpec.witness (enc := enc) (C := Try.checked) (s := Rows.OpenSpec.upto Rows.wireEncodeMatchesSpecSpec) (k := Rows.uptoSmall) rfl false ⟨#[], #[.int .i64 0, .string .empty, .slice none 0 0, .slice none 0 0, .slice none 0 0], []⟩ 8 (by kernel_rfl) (by kernel_rfl) (by kernel_rfl)
      (x := ([.lit (.int .i64 0), .lit (.string []), .nil, .nil, .nil], [], [])) (by kernel_rfl) rfl (by kernel_rfl)) ?_
  intro W base args ds gs before hval hW _ hk _
  exact contract H enc W base args ds gs before hval hW hk

/-- ████ THE STATEMENT ████ -/
theorem proved : Rows.WireEncodeMatchesSpecUptoSaid :=
  OpenClaim.holds_of_cond 3 Try.f3 rfl rfl rfl rfl rfl rfl rfl ⟨rfl, rfl, rfl, rfl, rfl⟩ rfl rfl rfl rfl rfl (by kernel_rfl) Try.func3 (by kernel_rfl)
    (of_decide_eq_true (by kernel_rfl)) (by unfold Func.isWrapper; first | (rw [if_pos (by decide +kernel)]; kernel_rfl) | (rw [if_neg (by decide +kernel)]; exact ⟨rfl, rfl⟩))
    (fun os started H enc _ F => lifted os started H enc F)
#print axioms proved
end Go.Proofs.Ytooanlmmplbnoaa.wireEncodeMatchesSpec
