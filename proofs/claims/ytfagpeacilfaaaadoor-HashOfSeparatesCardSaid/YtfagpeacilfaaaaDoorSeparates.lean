/-
  The law HashOfSeparates returns true for all tags and lists of parts, and leaves its arguments as they were.
  No condition: the card as it was given, tied to the program's text.
-/
import Derived.Test.YtfagpeacilfaaaaDoorCards
import Derived.Test.YtfagpeacilfaaaaDoorTie
import Derived.SevenTiedAt
import Derived.Test.YtfagpeacilfaaaaDoorFrame
import Derived.Test.YtfagpeacilfaaaaDoorLawC
import Derived.Test.YtfagpeacilfaaaaDoorOpen
import Derived.SizedLaws
namespace Go.Proofs.YtfagpeacilfaaaaDoor.separates
open Go.ChangeShapes Go.WideShapes Go.ChangeAt Go.RowKit
open Go.ChangeMaps (open_string shut_string)
set_option linter.unusedVariables false

/-! ### THE ROW's STEP -/
set_option maxRecDepth 100000 in
theorem lifted (os : Os) (started : os.Started) (H : Type) (enc : TypeId × Value → H) :
    ReturnsInHanded {} Tryd.checked os 8 .any (fun w args => (Rows.hashOfSeparatesSpec.pre enc Tryd.prog Tryd.f8 [] false w args ∧ laidMet Tryd.prog [("culprit/hash.roundConstants", Rows.laid_culprit_hash_roundConstants)] w) ∧ sizedMet enc Tryd.prog Tryd.f8 (OpenSpec.ofChange Rows.hashOfSeparatesSpec) false w args)
      (Rows.hashOfSeparatesSpec.post enc Tryd.prog Tryd.f8 false true false false) := by
  refine returnsInHanded_of_change_and (C := Tryd.checked) (X := fun w _ => laidMet Tryd.prog [("culprit/hash.roundConstants", Rows.laid_culprit_hash_roundConstants)] w) (fun _ _ _ hh h => h.of_heap hh) own started (by kernel_rfl) Tryd.func8
    (ChangeSpec.witness_at (enc := enc) (C := Tryd.checked) (os := os) (X := fun w _ => laidMet Tryd.prog [("culprit/hash.roundConstants", Rows.laid_culprit_hash_roundConstants)] w) false (laidWorld os) #[.agg #[.int .u8 0, .int .u8 0], .slice none 0 0, .slice none 0 0] 8 rfl (by kernel_rfl) (by kernel_rfl) (by kernel_rfl) (by kernel_rfl) (by kernel_rfl) (met1 os _)) ?_
  intro W base args ds gs before hval0 hW hcnd hsz0 hL _
  have hval : ∀ (j : Nat) t v, Tryd.f8.params[j]? = some t → args[j]? = some v → Value.okWide Tryd.prog W .any base t v := hval0
  have hW' := hW
  obtain ⟨p, q, hA0, hV, rfl, hfz, hnd⟩ := hW
  have hA : DataW.TrodAll enc Tryd.prog W 0 (fun _ => true) true Tryd.f8.params.toList args.toList ds p := hA0
  have hsz : (DataW.weightsEach Tryd.prog (Tryd.f8.params.toList ++ Rows.hashOfSeparatesSpec.plain.varTypes Tryd.prog) (ds ++ gs)).all (· ≤ reachBytes) = true := hsz0
  rw [Tryd.params8] at hA hval hsz
  obtain ⟨v0, vs0, d0, ds0, p0, q0, hargs, rfl, rfl, h0, r0⟩ := trodAll_cons hA
  obtain ⟨v1, vs1, d1, ds1, p1, q1, rfl, rfl, rfl, h1, r1⟩ := trodAll_cons r0
  obtain ⟨v2, vs2, d2, ds2, p2, q2, rfl, rfl, rfl, h2, r2⟩ := trodAll_cons r1
  obtain ⟨rfl, rfl, rfl⟩ := trodAll_nil r2
  obtain rfl : args = #[v0, v1, v2] := by cases args; simp_all
  obtain ⟨rfl, rfl⟩ := trodVars_none hV
  obtain ⟨cs0, rfl, _⟩ := okWide_array Tryd.underlying48 (hval 0 48 v0 rfl rfl)
  obtain ⟨a1, len1, cap1, rfl⟩ := okWide_slice Tryd.underlying27 (hval 1 27 v1 rfl rfl)
  obtain ⟨a2, len2, cap2, rfl⟩ := okWide_slice Tryd.underlying27 (hval 2 27 v2 rfl rfl)
  have k0 := h0
  have lt0 : ∀ x ∈ p0, x.block < W.heap.size := by obtain ⟨m, hm⟩ := k0; exact DataW.trod_lt m _ _ _ hm
  have k1 := h1
  have lt1 : ∀ x ∈ p1, x.block < W.heap.size := by obtain ⟨m, hm⟩ := k1; exact DataW.trod_lt m _ _ _ hm
  have k2 := h2
  have lt2 : ∀ x ∈ p2, x.block < W.heap.size := by obtain ⟨m, hm⟩ := k2; exact DataW.trod_lt m _ _ _ hm
  obtain ⟨t, u, hcs⟩ : ∃ t u : UInt8, cs0 = (T2 t u).toArray := by
    obtain ⟨fuel, hf⟩ := h0
    obtain ⟨d, hd, hc⟩ := arr_cells (n := 2) Tryd.underlying48 Tryd.underlying5 (by kernel_rfl) (by kernel_rfl) hf
    match d, hd with
    | [t, u], _ =>
      have hc2 : cs0.toList = T2 t u := hc
      exact ⟨t, u, by rw [← hc2]⟩
  subst hcs
  obtain ⟨x1, e1, lc1, rd1, hl1, hs1⟩ : ∃ l : List ByteArray, l.length = len1 ∧ len1 ≤ cap1 ∧ Wr.Rd W W.heap.size a1 (St l) ∧ len1 ≤ 281474976710656 ∧ ∀ y ∈ l, y.size ≤ 281474976710656 := by
    obtain ⟨fuel, hf⟩ := h1
    obtain ⟨l, hl1, hl2, hl3, hl4, _, sp, hsp, hd⟩ := strs_rd Tryd.underlying27 Tryd.underlying9 (by kernel_rfl) hf
    rcases hd with ⟨_, h0⟩ | hd
    · subst h0
      obtain rfl := List.eq_nil_of_length_eq_zero hl1
      exact ⟨[], rfl, hl2, Wr.Rd.nil, by omega, by simp⟩
    · have hd1 : d1 = _ := hd
      have hb := sized_slice hsz (j := 1) (t := 27) (e := 9) rfl (by rw [hd1]; rfl) Tryd.underlying27
      have hss := sized_strs hsz (j := 1) (t := 27) (e := 9) rfl (by rw [hd1]; rfl) Tryd.underlying27
      have h8 : Tryd.prog.bytesOf 9 = 16 := by kernel_rfl
      rw [h8] at hb
      simp only [strs, List.length_map, reachBytes] at hb hss
      exact ⟨l, hl1, hl2, hl4, by omega, fun y hy => by have := hss y hy; omega⟩
  obtain ⟨x2, e2, lc2, rd2, hl2, hs2⟩ : ∃ l : List ByteArray, l.length = len2 ∧ len2 ≤ cap2 ∧ Wr.Rd W W.heap.size a2 (St l) ∧ len2 ≤ 281474976710656 ∧ ∀ y ∈ l, y.size ≤ 281474976710656 := by
    obtain ⟨fuel, hf⟩ := h2
    obtain ⟨l, hl1, hl2, hl3, hl4, _, sp, hsp, hd⟩ := strs_rd Tryd.underlying27 Tryd.underlying9 (by kernel_rfl) hf
    rcases hd with ⟨_, h0⟩ | hd
    · subst h0
      obtain rfl := List.eq_nil_of_length_eq_zero hl1
      exact ⟨[], rfl, hl2, Wr.Rd.nil, by omega, by simp⟩
    · have hd2 : d2 = _ := hd
      have hb := sized_slice hsz (j := 2) (t := 27) (e := 9) rfl (by rw [hd2]; rfl) Tryd.underlying27
      have hss := sized_strs hsz (j := 2) (t := 27) (e := 9) rfl (by rw [hd2]; rfl) Tryd.underlying27
      have h8 : Tryd.prog.bytesOf 9 = 16 := by kernel_rfl
      rw [h8] at hb
      simp only [strs, List.length_map, reachBytes] at hb hss
      exact ⟨l, hl1, hl2, hl4, by omega, fun y hy => by have := hss y hy; omega⟩
  obtain ⟨ps, hps, _⟩ := hL
  have htab : Tab 1 W := tab_of glob1 glob1Type laid1 hps
  clear hA0 hval0 hsz0
  subst e1 e2
  refine (separates_walk t u a1 a2 x1 x2 cap1 cap2 W rd1 rd2 lc1 lc2 hl1 hl2 hs1 hs2 htab).mono fun e W' ⟨he, bel⟩ => ?_
  subst he
  exact ⟨_, rfl, _, _, _, [], _, [], hW', trodAll_mk1 (shut_bool Tryd.underlying4 _), (trodAll_cons_mk (Below.trod laidOut (by kernel_rfl) (of_decide_eq_true (by kernel_rfl)) k0 bel lt0) (trodAll_cons_mk (Below.trod laidOut (by kernel_rfl) (of_decide_eq_true (by kernel_rfl)) k1 bel lt1) (trodAll_cons_mk (Below.trod laidOut (by kernel_rfl) (of_decide_eq_true (by kernel_rfl)) k2 bel lt2) trodAll_mk0))), rfl, bel.frame _, fun h => by cases h⟩

theorem over : Rows.hashOfSeparatesRow.holds Tryd.pinned (OpenSpec.ofChange Rows.hashOfSeparatesSpec) :=
  OpenClaim.holds_of_wide 8 Tryd.f8 rfl rfl rfl rfl rfl rfl rfl ⟨rfl, rfl, rfl, rfl, rfl⟩ rfl rfl rfl rfl rfl (by kernel_rfl) Tryd.func8 (by kernel_rfl)
    (of_decide_eq_true (by kernel_rfl)) (by unfold Func.isWrapper; first | (rw [if_pos (by decide +kernel)]; kernel_rfl) | (rw [if_neg (by decide +kernel)]; exact ⟨rfl, rfl⟩))
    (fun os started H enc _ => lifted os started H enc)

/-- ████ THE TIED CARD ████ -/
theorem proved : Rows.HashOfSeparatesCardSaid :=
  Claim7.holds_tied_plain_at .later [] [.data] true (true, "c104925b8ae2628f1081b3fb120f70bcc426d6e43099cc95b8872fa36567c0ca") false
    over (fun _ h => by cases h) (by kernel_rfl) (fun _ h => by cases h) hashOfSeparates_row_tie rfl ⟨rfl, rfl⟩ (by kernel_rfl) rfl
    (fun f fn hf hfn => by
      obtain rfl : f = 8 := Option.some.inj ((show Tryd.prog.funcNamed "culprit/culpritlaw02.HashOfSeparates" = some 8 by kernel_rfl).symm.trans hf) |>.symm
      obtain rfl : fn = Tryd.f8 := (Option.some.inj (Tryd.func8.symm.trans hfn)).symm
      exact ⟨by kernel_rfl, fun j t ht => by
        rw [Tryd.params8] at ht
        have h9 : t = 48 ∨ t = 27 := by
          rcases j with _ | _ | _ | j
          · left; simpa using ht.symm
          · right; simpa using ht.symm
          · right; simpa using ht.symm
          · simp at ht
        rcases h9 with rfl | rfl
        · exact (show Tryd.prog.wantsStandIn 48 = false by kernel_rfl)
        · exact (show Tryd.prog.wantsStandIn 27 = false by kernel_rfl)⟩)
    (by kernel_rfl)
#print axioms proved
end Go.Proofs.YtfagpeacilfaaaaDoor.separates
