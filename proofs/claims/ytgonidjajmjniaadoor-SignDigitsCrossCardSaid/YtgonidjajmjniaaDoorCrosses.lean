/-
  The law SignDigitsCross returns true for all pairs of digests, and leaves its arguments as they were.
  No condition: the card as it was given, tied to the program's text.
-/
import Derived.Test.YtgonidjajmjniaaDoorCards
import Derived.Test.YtgonidjajmjniaaDoorTie
import Derived.SevenTiedAt
import Derived.Test.YtgonidjajmjniaaDoorOpenD
import Derived.Test.YtgonidjajmjniaaDoorLawA
import Derived.Test.YtgonidjajmjniaaDoorSane
namespace Go.Proofs.YtgonidjajmjniaaDoor.crosses
open Go.ChangeShapes Go.WideShapes Go.ChangeAt Go.RowKit Wr Sh
set_option linter.unusedVariables false

theorem sane (W : World) (ht : Tab 1 W) : Sane W := fun W2 hb => sanity_any W2 (ht.below hb ht.1)

/-! ### THE ROW's STEP -/
set_option maxRecDepth 100000 in
theorem lifted (os : Os) (started : os.Started) (H : Type) (enc : TypeId × Value → H) :
    ReturnsInHanded {} Tryd.checked os 7 .any (fun w args => (Rows.signDigitsCrossSpec.pre enc Tryd.prog Tryd.f7 [] false w args ∧ laidMet Tryd.prog [("culprit/hash.roundConstants", Rows.laid_culprit_hash_roundConstants)] w) ∧ sizedMet enc Tryd.prog Tryd.f7 (OpenSpec.ofChange Rows.signDigitsCrossSpec) false w args)
      (Rows.signDigitsCrossSpec.post enc Tryd.prog Tryd.f7 false true false false) := by
  refine returnsInHanded_of_change_and (C := Tryd.checked) (X := fun w _ => laidMet Tryd.prog [("culprit/hash.roundConstants", Rows.laid_culprit_hash_roundConstants)] w) (fun _ _ _ hh h => h.of_heap hh) own started (by kernel_rfl) Tryd.func7
    (ChangeSpec.witness_at (enc := enc) (C := Tryd.checked) (os := os) (X := fun w _ => laidMet Tryd.prog [("culprit/hash.roundConstants", Rows.laid_culprit_hash_roundConstants)] w) false (laidWorld os) #[.agg Z16.toArray, .agg Z16.toArray] 8 rfl (by kernel_rfl) (by kernel_rfl) (by kernel_rfl) (by kernel_rfl) (by kernel_rfl) (met1 os _)) ?_
  intro W base args ds gs before hval0 hW hcnd hsz0 hL _
  have hval : ∀ (j : Nat) t v, Tryd.f7.params[j]? = some t → args[j]? = some v → Value.okWide Tryd.prog W .any base t v := hval0
  have hW' := hW
  obtain ⟨p, q, hA0, hV, rfl, hfz, hnd⟩ := hW
  have hA : DataW.TrodAll enc Tryd.prog W 0 (fun _ => true) true Tryd.f7.params.toList args.toList ds p := hA0
  rw [Tryd.params7] at hA hval
  obtain ⟨v0, vs0, d0, ds0, p0, q0, hargs, rfl, rfl, h0, r0⟩ := trodAll_cons hA
  obtain ⟨v1, vs1, d1, ds1, p1, q1, rfl, rfl, rfl, h1, r1⟩ := trodAll_cons r0
  obtain ⟨rfl, rfl, rfl⟩ := trodAll_nil r1
  obtain rfl : args = #[v0, v1] := by cases args; simp_all
  obtain ⟨rfl, rfl⟩ := trodVars_none hV
  obtain ⟨a0, l0, rfl, rfl, rfl⟩ := open_dig (hval 0 23 v0 rfl rfl) h0
  obtain ⟨a1, l1, rfl, rfl, rfl⟩ := open_dig (hval 1 23 v1 rfl rfl) h1
  obtain ⟨ps, hps, _⟩ := hL
  have htab : Tab 1 W := tab_of glob1 glob1Type laid1 hps
  clear hA0 hval0 hsz0
  refine (cross_walk a0 a1 W l0 l1 (sane W htab)).mono fun e W' ⟨he, bel⟩ => ?_
  subst he
  exact ⟨_, rfl, _, _, _, [], _, [], hW', trodAll_mk1 (shut_bool Tryd.underlying4 _), (trodAll_cons_mk (shut_dig a0 l0) (trodAll_cons_mk (shut_dig a1 l1) trodAll_mk0)), rfl, bel.frame _, fun h => by cases h⟩

theorem over : Rows.signDigitsCrossRow.holds Tryd.pinned (OpenSpec.ofChange Rows.signDigitsCrossSpec) :=
  OpenClaim.holds_of_wide 7 Tryd.f7 rfl rfl rfl rfl rfl rfl rfl ⟨rfl, rfl, rfl, rfl, rfl⟩ rfl rfl rfl rfl rfl (by kernel_rfl) Tryd.func7 (by kernel_rfl)
    (of_decide_eq_true (by kernel_rfl)) (by unfold Func.isWrapper; first | (rw [if_pos (by decide +kernel)]; kernel_rfl) | (rw [if_neg (by decide +kernel)]; exact ⟨rfl, rfl⟩))
    (fun os started H enc _ => lifted os started H enc)

/-- ████ THE TIED CARD ████ -/
theorem proved : Rows.SignDigitsCrossCardSaid :=
  Claim7.holds_tied_plain_at .later [] [.data] true (true, "c76938f041be88581738678c8eba241e189b42283f63ac0adc857ece4215f3f1") false
    over (fun _ h => by cases h) (by kernel_rfl) (fun _ h => by cases h) signDigitsCross_row_tie rfl ⟨rfl, rfl⟩ (by kernel_rfl) rfl
    (fun f fn hf hfn => by
      obtain rfl : f = 7 := Option.some.inj ((show Tryd.prog.funcNamed "culprit/culpritlaw03.SignDigitsCross" = some 7 by kernel_rfl).symm.trans hf) |>.symm
      obtain rfl : fn = Tryd.f7 := (Option.some.inj (Tryd.func7.symm.trans hfn)).symm
      exact ⟨by kernel_rfl, fun j t ht => by
        rw [Tryd.params7] at ht
        have h9 : t = 23 := by
          rcases j with _ | _ | j
          · simpa using ht.symm
          · simpa using ht.symm
          · simp at ht
        subst h9
        exact (show Tryd.prog.wantsStandIn 23 = false by kernel_rfl)⟩)
    (by kernel_rfl)
#print axioms proved
end Go.Proofs.YtgonidjajmjniaaDoor.crosses
