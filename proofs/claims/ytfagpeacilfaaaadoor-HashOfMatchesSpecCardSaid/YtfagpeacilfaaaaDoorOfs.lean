/-
  The law HashOfMatchesSpec returns true for every tag and list of parts, and leaves its arguments as they were.
  No condition: the card as it was given, tied to the program's text.
-/
import Derived.Test.YtfagpeacilfaaaaDoorCards
import Derived.Test.YtfagpeacilfaaaaDoorTie
import Derived.SevenTiedAt
import Derived.Test.YtfagpeacilfaaaaDoorFrame2
import Derived.Test.YtfagpeacilfaaaaDoorLawG
import Derived.Test.YtfagpeacilfaaaaDoorOpen
import Derived.SizedLaws
namespace Go.Proofs.YtfagpeacilfaaaaDoor.ofs
open Go.ChangeShapes Go.WideShapes Go.ChangeAt Go.RowKit
open Go.ChangeMaps (open_string shut_string)
set_option linter.unusedVariables false

/-! ### THE ROW's STEP -/
set_option maxRecDepth 100000 in
theorem lifted (os : Os) (started : os.Started) (H : Type) (enc : TypeId × Value → H) :
    ReturnsInHanded {} Tryd.checked os 7 .any (fun w args => (Rows.hashOfMatchesSpecSpec.pre enc Tryd.prog Tryd.f7 [] false w args ∧ laidMet Tryd.prog [("culprit/culpritref02.constants", Rows.laid_culprit_culpritref02_constants), ("culprit/hash.roundConstants", Rows.laid_culprit_hash_roundConstants)] w) ∧ sizedMet enc Tryd.prog Tryd.f7 (OpenSpec.ofChange Rows.hashOfMatchesSpecSpec) false w args)
      (Rows.hashOfMatchesSpecSpec.post enc Tryd.prog Tryd.f7 false true false false) := by
  refine returnsInHanded_of_change_and (C := Tryd.checked) (X := fun w _ => laidMet Tryd.prog [("culprit/culpritref02.constants", Rows.laid_culprit_culpritref02_constants), ("culprit/hash.roundConstants", Rows.laid_culprit_hash_roundConstants)] w) (fun _ _ _ hh h => h.of_heap hh) own started (by kernel_rfl) Tryd.func7
    (ChangeSpec.witness_at (enc := enc) (C := Tryd.checked) (os := os) (X := fun w _ => laidMet Tryd.prog [("culprit/culpritref02.constants", Rows.laid_culprit_culpritref02_constants), ("culprit/hash.roundConstants", Rows.laid_culprit_hash_roundConstants)] w) false (laidWorld os) #[.int .i64 0, .slice none 0 0] 8 rfl (by kernel_rfl) (by kernel_rfl) (by kernel_rfl) (by kernel_rfl) (by kernel_rfl) (met2 os _)) ?_
  intro W base args ds gs before hval0 hW hcnd hsz0 hL _
  have hval : ∀ (j : Nat) t v, Tryd.f7.params[j]? = some t → args[j]? = some v → Value.okWide Tryd.prog W .any base t v := hval0
  have hW' := hW
  obtain ⟨p, q, hA0, hV, rfl, hfz, hnd⟩ := hW
  have hA : DataW.TrodAll enc Tryd.prog W 0 (fun _ => true) true Tryd.f7.params.toList args.toList ds p := hA0
  have hsz : (DataW.weightsEach Tryd.prog (Tryd.f7.params.toList ++ Rows.hashOfMatchesSpecSpec.plain.varTypes Tryd.prog) (ds ++ gs)).all (· ≤ reachBytes) = true := hsz0
  rw [Tryd.params7] at hA hval hsz
  obtain ⟨v0, vs0, d0, ds0, p0, q0, hargs, rfl, rfl, h0, r0⟩ := trodAll_cons hA
  obtain ⟨v1, vs1, d1, ds1, p1, q1, rfl, rfl, rfl, h1, r1⟩ := trodAll_cons r0
  obtain ⟨rfl, rfl, rfl⟩ := trodAll_nil r1
  obtain rfl : args = #[v0, v1] := by cases args; simp_all
  obtain ⟨rfl, rfl⟩ := trodVars_none hV
  obtain ⟨a0, rfl, rfl, rfl, w0⟩ := open_int Tryd.underlying3 (hval 0 3 v0 rfl rfl) h0
  obtain ⟨a1, len1, cap1, rfl⟩ := okWide_slice Tryd.underlying27 (hval 1 27 v1 rfl rfl)
  have k1 := h1
  have lt1 : ∀ x ∈ p1, x.block < W.heap.size := by obtain ⟨m, hm⟩ := k1; exact DataW.trod_lt m _ _ _ hm
  obtain ⟨x1, e1, lc1, rd1, hl1, hs1⟩ : ∃ l : List ByteArray, l.length = len1 ∧ len1 ≤ cap1 ∧ Wr.Rd W W.heap.size a1 (St l) ∧ len1 ≤ 281474976710656 ∧ ∀ y ∈ l, y.size ≤ 281474976710656 := by
    obtain ⟨fuel, hf⟩ := h1
    obtain ⟨l, hl1, hl2, hl3, hl4, _, sp, hsp, hd⟩ := strs_rd Tryd.underlying27 Tryd.underlying9 (by kernel_rfl) hf
    rcases hd with ⟨_, h0⟩ | hd
    · subst h0
      obtain rfl := List.eq_nil_of_length_eq_zero hl1
      exact ⟨[], rfl, hl2, Wr.Rd.nil, by omega, by simp⟩
    · have hd1 : d1 = _ := hd
      have hb := sized_slice hsz (j := 1) (t := 27) (e := 9) rfl (by rw [hd1]; rfl) Tryd.underlying27
      have hss := sized_strs hsz (j := 1) (t := 27) (e := 9) rfl (by rw [hd1]; rfl) Tryd.underlying27
      have h8 : Tryd.prog.bytesOf 9 = 16 := by kernel_rfl
      rw [h8] at hb
      simp only [strs, List.length_map, reachBytes] at hb hss
      exact ⟨l, hl1, hl2, hl4, by omega, fun y hy => by have := hss y hy; omega⟩
  obtain ⟨t8, ht8⟩ : ∃ t8 : UInt8, IntKind.u8.wrap a0 = (t8.toNat : Int) := by
    refine ⟨UInt8.ofNat (a0 % 256).toNat, ?_⟩
    rw [IntKind.wrap_u8', UInt8.toNat_ofNat']
    omega
  obtain ⟨ps, hps, _⟩ := hL
  obtain ⟨htab0, htab⟩ := tabs_of hps
  clear hA0 hval0 hsz0
  subst e1
  refine (ofs_go a0 t8 ht8 a1 x1 cap1 W rd1 lc1 hl1 hs1 htab htab0 _ _ (Lib.hid rfl) (Lib.hid rfl)).mono fun e W' ⟨he, bel⟩ => ?_
  subst he
  exact ⟨_, rfl, _, _, _, [], _, [], hW', trodAll_mk1 (shut_bool Tryd.underlying4 _), (trodAll_cons_mk (shut_int Tryd.underlying3 w0) (trodAll_cons_mk (Below.trod laidOut (by kernel_rfl) (of_decide_eq_true (by kernel_rfl)) k1 bel lt1) trodAll_mk0)), rfl, bel.frame _, fun h => by cases h⟩

theorem over : Rows.hashOfMatchesSpecRow.holds Tryd.pinned (OpenSpec.ofChange Rows.hashOfMatchesSpecSpec) :=
  OpenClaim.holds_of_wide 7 Tryd.f7 rfl rfl rfl rfl rfl rfl rfl ⟨rfl, rfl, rfl, rfl, rfl⟩ rfl rfl rfl rfl rfl (by kernel_rfl) Tryd.func7 (by kernel_rfl)
    (of_decide_eq_true (by kernel_rfl)) (by unfold Func.isWrapper; first | (rw [if_pos (by decide +kernel)]; kernel_rfl) | (rw [if_neg (by decide +kernel)]; exact ⟨rfl, rfl⟩))
    (fun os started H enc _ => lifted os started H enc)

/-- ████ THE TIED CARD ████ -/
theorem proved : Rows.HashOfMatchesSpecCardSaid :=
  Claim7.holds_tied_plain_at .later [] [.data, .data] true (true, "c104925b8ae2628f1081b3fb120f70bcc426d6e43099cc95b8872fa36567c0ca") false
    over (fun _ h => by cases h) (by kernel_rfl) (fun _ h => by cases h) hashOfMatchesSpec_row_tie rfl ⟨rfl, rfl⟩ (by kernel_rfl) rfl
    (fun f fn hf hfn => by
      obtain rfl : f = 7 := Option.some.inj ((show Tryd.prog.funcNamed "culprit/culpritlaw02.HashOfMatchesSpec" = some 7 by kernel_rfl).symm.trans hf) |>.symm
      obtain rfl : fn = Tryd.f7 := (Option.some.inj (Tryd.func7.symm.trans hfn)).symm
      exact ⟨by kernel_rfl, fun j t ht => by
        rw [Tryd.params7] at ht
        have h9 : t = 3 ∨ t = 27 := by
          rcases j with _ | _ | j
          · left; simpa using ht.symm
          · right; simpa using ht.symm
          · simp at ht
        rcases h9 with rfl | rfl
        · exact (show Tryd.prog.wantsStandIn 3 = false by kernel_rfl)
        · exact (show Tryd.prog.wantsStandIn 27 = false by kernel_rfl)⟩)
    (by kernel_rfl)
#print axioms proved
end Go.Proofs.YtfagpeacilfaaaaDoor.ofs
