/-
  The law WireTruncated returns true for every integer, string and list, and leaves its arguments as they were.
  No condition: the statement '..Said' as it was given.
-/
import Derived.Test.YtooanlmmplbnoaaRows
import Derived.Test.YtooanlmmplbnoaaLawF
import Derived.Test.YtooanlmmplbnoaaOpen
import Derived.SizedLaws
import Derived.WalkKit
import Derived.ProofKit
import Derived.OpenShut
import Derived.ShutString
import Derived.ChangeOld
import Derived.Below
namespace Go.Proofs.Ytooanlmmplbnoaa.wireTruncated
open Go.ChangeShapes Go.WideShapes Go.ChangeAt Go.RowKit
open Go.ChangeMaps (open_string shut_string)
set_option linter.unusedVariables false

theorem own : ownKnob Try.prog.godebug = none := by kernel_rfl
theorem laidOut : laidOutB Try.prog = true := by kernel_rfl

/-! ### THE ROW's STEP: WRITTEN OUT: LEAVE IT -/
set_option maxRecDepth 100000 in
theorem lifted (os : Os) (started : os.Started) (H : Type) (enc : TypeId × Value → H) :
    ReturnsInHanded {} Try.checked os 9 .any (Rows.wireTruncatedSpec.pre6 enc Try.prog Try.f9 Rows.wireTruncatedRow.domain false) (Rows.wireTruncatedSpec.post enc Try.prog Try.f9 false true false false) := by
  refine returnsInHanded_of_change_sized (C := Try.checked) own started (by kernel_rfl) Try.func9
    (ChangeSpec.witness6 (enc := enc) (C := Try.checked) false ⟨#[], #[.int .i64 0, .string ByteArray.empty, .slice none 0 0, .slice none 0 0, .slice none 0 0], []⟩ 8 (by kernel_rfl) (by kernel_rfl) (by kernel_rfl) (by kernel_rfl)) ?_
  intro W base args ds gs before hval0 hW hcnd hsz0 _
  have hsz : (DataW.weightsEach Try.prog (Try.f9.params.toList ++ Rows.wireTruncatedSpec.plain.varTypes Try.prog) (ds ++ gs)).all (· ≤ reachBytes) = true := hsz0
  clear hsz0
  have hval : ∀ (j : Nat) t v, Try.f9.params[j]? = some t → args[j]? = some v → Value.okWide Try.prog W .any base t v := hval0
  have hW' := hW
  obtain ⟨p, q, hA0, hV, rfl, hfz, hnd⟩ := hW
  have hA : DataW.TrodAll enc Try.prog W 0 (fun _ => true) true Try.f9.params.toList args.toList ds p := hA0
  rw [Try.params9] at hA hval hsz
  obtain ⟨v0, vs0, d0, ds0, p0, q0, hargs, rfl, rfl, h0, r0⟩ := trodAll_cons hA
  obtain ⟨v1, vs1, d1, ds1, p1, q1, rfl, rfl, rfl, h1, r1⟩ := trodAll_cons r0
  obtain ⟨v2, vs2, d2, ds2, p2, q2, rfl, rfl, rfl, h2, r2⟩ := trodAll_cons r1
  obtain ⟨v3, vs3, d3, ds3, p3, q3, rfl, rfl, rfl, h3, r3⟩ := trodAll_cons r2
  obtain ⟨v4, vs4, d4, ds4, p4, q4, rfl, rfl, rfl, h4, r4⟩ := trodAll_cons r3
  obtain ⟨rfl, rfl, rfl⟩ := trodAll_nil r4
  obtain rfl : args = #[v0, v1, v2, v3, v4] := by cases args; simp_all
  obtain ⟨rfl, rfl⟩ := trodVars_none hV
  obtain ⟨a0, rfl, rfl, rfl, w0⟩ := open_int Try.underlying3 (hval 0 3 v0 rfl rfl) h0
  obtain ⟨a1, rfl, rfl, rfl, w1⟩ := open_string Try.underlying9 (hval 1 9 v1 rfl rfl) h1
  obtain ⟨a2, len2, cap2, rfl⟩ := okWide_slice Try.underlying22 (hval 2 22 v2 rfl rfl)
  obtain ⟨a3, len3, cap3, rfl⟩ := okWide_slice Try.underlying23 (hval 3 23 v3 rfl rfl)
  obtain ⟨a4, len4, cap4, rfl⟩ := okWide_slice Try.underlying24 (hval 4 24 v4 rfl rfl)
  have k2 := h2
  have lt2 : ∀ x ∈ p2, x.block < W.heap.size := by obtain ⟨m, hm⟩ := k2; exact DataW.trod_lt m _ _ _ hm
  have k3 := h3
  have lt3 : ∀ x ∈ p3, x.block < W.heap.size := by obtain ⟨m, hm⟩ := k3; exact DataW.trod_lt m _ _ _ hm
  have k4 := h4
  have lt4 : ∀ x ∈ p4, x.block < W.heap.size := by obtain ⟨m, hm⟩ := k4; exact DataW.trod_lt m _ _ _ hm
  have hs1 : a1.data.toList.length ≤ reachBytes := sized_string hsz (j := 1) (t := 9) rfl rfl
  obtain ⟨z2, r2', hl2⟩ : ∃ zs, InRow .i64 W a2 len2 cap2 zs ∧ len2 ≤ 281474976710656 := by
    obtain ⟨fuel, hf⟩ := h2
    rcases open_ints Try.underlying22 Try.underlying3 (by kernel_rfl) hf with ⟨hcs, _⟩ | ⟨x, l, c, zs, hcs, _, hl, hm, hz, hx, hcell, hwz⟩
    · simp [Value.cells] at hcs
      obtain ⟨rfl, rfl, rfl⟩ := hcs
      exact ⟨[], .inl ⟨rfl, rfl, rfl, rfl⟩, by omega⟩
    · simp [Value.cells] at hcs
      obtain ⟨rfl, rfl, rfl⟩ := hcs
      simp only [Prod.mk.injEq] at hx
      have hz2 : zs.length = cap2 := by simpa using hz
      have hb := sized_slice hsz (j := 2) (t := 22) (e := 3) rfl (by rw [hx.1]; rfl) Try.underlying22
      have h8 : Try.prog.bytesOf 3 = 8 := by kernel_rfl
      rw [h8] at hb
      simp only [lits, List.length_map, List.length_take, List.length_drop, reachBytes] at hb
      exact ⟨zs, .inr ⟨_, rfl, hl, hm, hz2, hcell, hwz⟩, by omega⟩
  obtain ⟨x3, e3, lc3, _, rd3, _, hl3, hs3⟩ : ∃ l : List ByteArray, l.length = len3 ∧ len3 ≤ cap3 ∧ (a3 = none → cap3 = 0) ∧ Wr.Rd W W.heap.size a3 (St l) ∧ True ∧ len3 ≤ 281474976710656 ∧ ∀ y ∈ l, y.size ≤ 281474976710656 := by
    obtain ⟨fuel, hf⟩ := h3
    obtain ⟨l, hl1, hl2, hl3, hl4, _, sp, hsp, hd⟩ := strs_rd Try.underlying23 Try.underlying9 (by kernel_rfl) hf
    rcases hd with ⟨_, h0⟩ | hd
    · subst h0
      obtain rfl := List.eq_nil_of_length_eq_zero hl1
      exact ⟨[], rfl, hl2, hl3, Wr.Rd.nil, trivial, by omega, by simp⟩
    · have hd3 : d3 = _ := hd
      have hb := sized_slice hsz (j := 3) (t := 23) (e := 9) rfl (by rw [hd3]; rfl) Try.underlying23
      have hss := sized_strs hsz (j := 3) (t := 23) (e := 9) rfl (by rw [hd3]; rfl) Try.underlying23
      have h8 : Try.prog.bytesOf 9 = 16 := by kernel_rfl
      rw [h8] at hb
      simp only [strs, List.length_map, reachBytes] at hb hss
      exact ⟨l, hl1, hl2, hl3, hl4, trivial, by omega, fun y hy => by have := hss y hy; omega⟩
  obtain ⟨z4, e4, lc4, _, rd4, ok4, hl4⟩ : ∃ l : List (List UInt8), l.length = len4 ∧ len4 ≤ cap4 ∧ (a4 = none → cap4 = 0) ∧ Wr.Rd W W.heap.size a4 (Dg l) ∧ (∀ y ∈ l, Wr.okDig y) ∧ len4 ≤ 281474976710656 := by
    obtain ⟨fuel, hf⟩ := h4
    obtain ⟨l, hl1, hl2, hl3, hl4, hok, hd⟩ := digs_rd Try.underlying24 Try.underlying57 Try.underlying5 (by kernel_rfl) (by kernel_rfl) hf
    rcases hd with ⟨_, h0⟩ | ⟨es, sp, g1, g2, hd⟩
    · exact ⟨l, hl1, hl2, hl3, hl4, hok, by omega⟩
    · have hd4 : d4 = _ := hd
      have hb := sized_slice hsz (j := 4) (t := 24) (e := 57) rfl (by rw [hd4]; rfl) Try.underlying24
      have h8 : Try.prog.bytesOf 57 = 16 := by kernel_rfl
      rw [h8] at hb
      simp only [reachBytes] at hb
      exact ⟨l, hl1, hl2, hl3, hl4, hok, by omega⟩
  clear hA0 hval0
  obtain ⟨y2, e2, lc2, _, rd2, ok2⟩ := in_ints r2'
  subst e2 e3 e4
  refine (truncated_walk a0 a1 a2 a3 a4 y2 x3 z4 cap2 cap3 cap4 W (bounds_i64 w0).1 (bounds_i64 w0).2 (by rw [← size_list]; unfold reachBytes at hs1; omega) hl2 hl4 hl3 hs3 rd2 rd3 rd4 lc2 lc3 lc4 ok2 ok4).mono fun e W' ⟨he, bel⟩ => ?_
  subst he
  exact ⟨_, rfl, _, _, _, [], _, [], hW', trodAll_mk1 (shut_bool Try.underlying4 _), (trodAll_cons_mk (shut_int Try.underlying3 w0) (trodAll_cons_mk (shut_string Try.underlying9 w1) (trodAll_cons_mk (Below.trod laidOut (by kernel_rfl) (of_decide_eq_true (by kernel_rfl)) k2 bel lt2) (trodAll_cons_mk (Below.trod laidOut (by kernel_rfl) (of_decide_eq_true (by kernel_rfl)) k3 bel lt3) (trodAll_cons_mk (Below.trod laidOut (by kernel_rfl) (of_decide_eq_true (by kernel_rfl)) k4 bel lt4) trodAll_mk0))))), rfl, bel.frame _, fun h => by cases h⟩

theorem over : Rows.wireTruncatedRow.holds Try.pinned (OpenSpec.ofChange Rows.wireTruncatedSpec) :=
  OpenClaim.holds_of_wide 9 Try.f9 rfl rfl rfl rfl rfl rfl rfl ⟨rfl, rfl, rfl, rfl, rfl⟩ rfl rfl rfl rfl rfl (by kernel_rfl) Try.func9 (by kernel_rfl)
    (of_decide_eq_true (by kernel_rfl)) (by unfold Func.isWrapper; first | (rw [if_pos (by decide +kernel)]; kernel_rfl) | (rw [if_neg (by decide +kernel)]; exact ⟨rfl, rfl⟩))
    (fun os started H enc _ => lifted os started H enc)

/-- ████ THE STATEMENT ████ -/
theorem proved : Rows.WireTruncatedSaid := over
#print axioms proved
end Go.Proofs.Ytooanlmmplbnoaa.wireTruncated
