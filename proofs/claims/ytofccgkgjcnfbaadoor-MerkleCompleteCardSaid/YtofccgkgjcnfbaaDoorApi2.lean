/-
  The contracts of merkle's Prove and Range.
  Conditions: at most 2^30 leaves, keys and values of at most 2^30 bytes; the table of the round constants is as the text lays it.
-/
import Derived.Test.YtofccgkgjcnfbaaDoorApi
namespace Go.Proofs.YtofccgkgjcnfbaaDoor
open Go.RowKit Wr Sh
set_option linter.unusedVariables false
set_option maxRecDepth 100000

theorem str_ext {a b : ByteArray} (h : a.toList = b.toList) : a = b := by
  rw [Lib.toList_data, Lib.toList_data] at h
  cases a; cases b; simp_all
theorem PR_A (a b : Int) (A1 A2 : Option Addr) (n1 c1 n2 c2 : Nat) : Value.agg #[.int .i64 a, .int .i64 b, .slice A1 n1 c1, .slice A2 n2 c2] = .agg (PR a b (.slice A1 n1 c1) (.slice A2 n2 c2)).toArray := rfl
theorem noPf_V (b : Nat) (W : World) : ProofV b W noPf (.agg ZP.toArray) := ⟨none, 0, none, 0, rfl, ⟨Nat.le_refl _, fun _ => rfl⟩, ⟨Nat.le_refl _, fun _ => rfl⟩, fun h => absurd rfl h, fun h => absurd rfl h, ⟨(fun _ h => by cases h), (fun _ h => by cases h)⟩, (fun d h => by cases h)⟩
theorem ZP_one : ZP.toArray.all (·.oneCell') = true := PR_one _ _ _ _ _ _ _ _
theorem proof_any (A : Option Addr) (L : List Lf) (c : Nat) (f e : Int) (first last m : Nat) (w : World) (hL : okL L) (hc : L.length ≤ c) (hnil : A = none → c = 0) (hf : max f 0 = (first : Int)) (he : min e (L.length : Int) = (last : Int)) (hfl : first ≤ last) (hm : last - first = m) (hr : Rd w w.heap.size A (LC L)) (ht : Tab 1 w) (hof : okInt f) (hoe : okInt e) :
    Calls Tryd.prog 55 #[.slice A L.length c, .int .i64 f, .int .i64 e] w fun en w' => ∃ A1 c1 A2 k2 c2, en = .returned (.agg (PR (first : Int) (L.length : Int) (.slice A1 m c1) (.slice A2 k2 c2)).toArray) ∧ ProofV w.heap.size w' (shown node lf top L first last) (.agg (PR (first : Int) (L.length : Int) (.slice A1 m c1) (.slice A2 k2 c2)).toArray) ∧ Below w.heap.size w w' := by
  refine (proofOf_any A L c f e first last w hL hc hnil hf he hfl hr ht hof hoe).mono ?_
  rintro en w' ⟨v, rfl, hp, hb'⟩
  have hp0 := hp
  obtain ⟨A1, c1, A2, c2, e, _⟩ := hp
  have e2 : v = .agg (PR (first : Int) (L.length : Int) (.slice A1 m c1) (.slice A2 (shown node lf top L first last).sides.length c2)).toArray := by
    rw [e]
    have : (cut L first last).length = m := by rw [cut_len L first last (by omega)]; exact hm
    show Value.agg #[.int .i64 (first : Int), .int .i64 (L.length : Int), .slice A1 (cut L first last).length c1, _] = _
    rw [this]; rfl
  exact ⟨A1, c1, A2, _, c2, by rw [e2], by rw [← e2]; exact hp0, hb'⟩
set_option maxHeartbeats 4000000 in
theorem prove_any (A : Option Addr) (L : List Lf) (c : Nat) (key : ByteArray) (w : World) (h : LsAt w w.heap.size A L c) (ht : Tab 1 w) :
    Calls Tryd.prog 22 #[.slice A L.length c, .string key] w fun e w' => ∃ v, e = .returned (.tuple #[v, .int .i64 (validE L)]) ∧ ProofV w.heap.size w' (proveR node lf top L key).1 v ∧ Below w.heap.size w w' := by
  have hZ := hZP
  obtain ⟨W1, hW1⟩ : ∃ W, W = w.alloc (.cells ZP.toArray 50) := ⟨_, rfl⟩
  have K1 := Lib.hid (Kz.first hW1)
  have HW := Lib.hid hW1
  have H := Lib.hid h
  have HT := Lib.hid ht
  have hln := h.ok.1
  obtain ⟨V, hV⟩ : ∃ V, V = validE L := ⟨_, rfl⟩
  have HV := Lib.hid (valid_any A L c W1 h.ok ((h.below K1.out.b).more K1.out.b.size).rd)
  rw [← hV] at HV ⊢
  have HVE := Lib.hid hV
  clear h ht hW1 hV
  by_cases hv : V = 0
  · subst hv
    obtain ⟨v1, v2, v3⟩ := valid_ok HVE.out.symm
    obtain ⟨n, hn⟩ : ∃ n, n = cb L key := ⟨_, rfl⟩
    have hnl : n ≤ L.length := by rw [hn]; exact cb_le L key
    have HC : Hid (∀ W, Below w.heap.size w W → Calls Tryd.prog 54 #[.slice A L.length c, .string key] W fun e w' => e = .returned (.int .i64 (n : Int)) ∧ Below W.heap.size W w') := Lib.hid (fun W hb => by
      rw [hn]; exact count_any A L c key W hln v3 ((H.out.below hb).more hb.size).rd)
    have HP : Hid (∀ W (f e : Int) (first last m : Nat), Below w.heap.size w W → max f 0 = (first : Int) → min e (L.length : Int) = (last : Int) → first ≤ last → last - first = m → okInt f → okInt e → Calls Tryd.prog 55 #[.slice A L.length c, .int .i64 f, .int .i64 e] W fun en w' => ∃ A1 c1 A2 k2 c2, en = .returned (.agg (PR (first : Int) (L.length : Int) (.slice A1 m c1) (.slice A2 k2 c2)).toArray) ∧ ProofV W.heap.size w' (shown node lf top L first last) (.agg (PR (first : Int) (L.length : Int) (.slice A1 m c1) (.slice A2 k2 c2)).toArray) ∧ Below W.heap.size W w') := Lib.hid (fun W f e first last m hb h1 h2 h3 hm h4 h5 => proof_any A L c f e first last m W H.out.ok H.out.cap H.out.nil h1 h2 h3 hm ((H.out.below hb).more hb.size).rd (HT.out.below hb HT.out.1) h4 h5)
    by_cases hit : hitB L key = true
    · obtain ⟨h1, h2⟩ : n < L.length ∧ (L.getD n (ByteArray.empty, ByteArray.empty)).1 = key := by
        unfold hitB at hit; rw [← hn] at hit; simpa using hit
      have HR := Lib.hid (show (proveR node lf top L key).1 = shown node lf top L n (n + 1) by
        unfold proveR; rw [if_pos HVE.out.symm, if_pos hit, ← hn])
      rw [List.getD_eq_getElem?_getD, List.getElem?_eq_getElem h1] at h2
      have h2' : L[n].1 = key := h2
      obtain ⟨g, o, rfl, hg, hc⟩ := leaf_cells H.out.rd n h1
      have c1 := (hc n h1).1
      rw [h2'] at c1
      have CC := Lib.hid c1
      have HG := Lib.hid hg
      have i1 : (n : Int) < (L.length : Int) := by omega
      clear hn hit h2 h2' hc c1 hg v2 v3
      go_enter Tryd.func22, Tryd.ntmps22
      go_upto_region 4 with (go_at_call 15; rw [← HW.out]; refine HV.out.mono ?_; rintro e w2 ⟨rfl, hb2⟩; have HB2 := Lib.hid hb2; clear hb2)
      have K2 := Lib.hid (K1.out.below HB2.out)
      go_upto_region 5 with (go_at_call 54; refine (HC.out _ K2.out.b).mono ?_; rintro e w3 ⟨rfl, hb3⟩; have HB3 := Lib.hid hb3; clear hb3)
      have K3 := Lib.hid (K2.out.below HB3.out)
      have hcl : w3.cell? ⟨g, o + n * 2, none⟩ = some (.string key) := (K3.out.b.cell (p := ⟨g, o + n * 2, none⟩) HG.out).trans CC.out
      clear HB2 HB3 HV HC
      go_wp2_with fail
      refine (HP.out _ (n : Int) ((n : Int) + 1) n (n + 1) 1 K3.out.b (by omega) (by omega) (by omega) (by omega) ⟨by omega, by omega⟩ ⟨by omega, by omega⟩).mono ?_; rintro e w4 ⟨A1, c1, A2, k2, c2, rfl, hp4, hb4⟩
      have K4 := Lib.hid (K3.out.below hb4)
      have HP4 := Lib.hid hp4
      have Z4 := Lib.hid (show w4.heap[w.heap.size]? = some (.cells ZP.toArray 50 (0, 0)) from K4.out.z)
      have L3 := Lib.hid K3.out.z.lt
      clear hp4 hb4 hcl
      go_wp2_with (with_reducible refine wpList_store_row rfl 50 (.tmp 4) (.tmp 34) rfl w.heap.size _ rfl rfl 50 _ Z4.out (size50A _ _ _ _) (ZP_PR _ _ _ _) (PR_one _ _ _ _ _ _ _ _) ?_)
      refine bodyPost_ret (v := .tuple #[.agg (PR (n : Int) (L.length : Int) (.slice A1 1 c1) (.slice A2 k2 c2)).toArray, .int .i64 0]) ?_ rfl ⟨_, rfl, ?_, belowRow K4.out.b (Nat.le_refl _) _⟩
      · have hr := run_loadVar_row (P := Tryd.prog) _ w.heap.size 50 50 (PR (n : Int) (L.length : Int) (.slice A1 1 c1) (.slice A2 k2 c2)).toArray (0, 0) _ (heap_setRow w4 w.heap.size (PR (n : Int) (L.length : Int) (.slice A1 1 c1) (.slice A2 k2 c2)).toArray _ 50 Z4.out) Tryd.underlying50 rfl (size50A _ _ _ _)
        simp [results, Tryd.results22, asAddr, hr]
      · rw [HR.out]
        exact (HP4.out.keep (by simp) (fun k hk hb => heap_setRow_other _ _ _ _ (by have := L3.out; omega))).mono (by have := L3.out; omega)
    · obtain ⟨lo, hlo⟩ : ∃ lo, lo = n - 1 := ⟨_, rfl⟩
      obtain ⟨hi, hhi⟩ : ∃ hi, hi = min (n + 1) L.length := ⟨_, rfl⟩
      obtain ⟨m, hm⟩ : ∃ m, m = hi - lo := ⟨_, rfl⟩
      have HR := Lib.hid (show (proveR node lf top L key).1 = shown node lf top L lo hi by
        unfold proveR; rw [if_pos HVE.out.symm, if_neg hit, ← hn, hlo, hhi])
      have HM := Lib.hid (show (max ((n : Int) - 1) 0 = (lo : Int) ∧ min ((n : Int) + 1) (L.length : Int) = (hi : Int) ∧ lo ≤ hi ∧ hi - lo = m) ∧ okInt ((n : Int) - 1) ∧ okInt ((n : Int) + 1) from ⟨⟨by omega, by omega, by omega, hm.symm⟩, ⟨by omega, by omega⟩, ⟨by omega, by omega⟩⟩)
      have hcs : ¬ n < L.length ∨ ∃ (h : n < L.length), L[n].1 ≠ key := by
        rcases Nat.lt_or_ge n L.length with h | h
        · right; refine ⟨h, fun e => hit ?_⟩
          unfold hitB; rw [← hn]
          rw [List.getD_eq_getElem?_getD, List.getElem?_eq_getElem h]
          simp [h, e]
        · left; omega
      clear hlo hhi hm hn hit v2 v3
      rcases hcs with hcs | ⟨h1, hne⟩
      · have i1 : ¬ (n : Int) < (L.length : Int) := by omega
        go_enter Tryd.func22, Tryd.ntmps22
        go_upto_region 4 with (go_at_call 15; rw [← HW.out]; refine HV.out.mono ?_; rintro e w2 ⟨rfl, hb2⟩; have HB2 := Lib.hid hb2; clear hb2)
        have K2 := Lib.hid (K1.out.below HB2.out)
        go_upto_region 5 with (go_at_call 54; refine (HC.out _ K2.out.b).mono ?_; rintro e w3 ⟨rfl, hb3⟩; have HB3 := Lib.hid hb3; clear hb3)
        have K3 := Lib.hid (K2.out.below HB3.out)
        clear HB2 HB3 HV HC
        go_wp2_with fail
        refine (HP.out _ ((n : Int) - 1) ((n : Int) + 1) lo hi m K3.out.b HM.out.1.1 HM.out.1.2.1 HM.out.1.2.2.1 HM.out.1.2.2.2 HM.out.2.1 HM.out.2.2).mono ?_; rintro e w4 ⟨A1, c1, A2, k2, c2, rfl, hp4, hb4⟩
        have K4 := Lib.hid (K3.out.below hb4)
        have HP4 := Lib.hid hp4
        have Z4 := Lib.hid (show w4.heap[w.heap.size]? = some (.cells ZP.toArray 50 (0, 0)) from K4.out.z)
        have L3 := Lib.hid K3.out.z.lt
        clear hp4 hb4
        go_wp2_with (with_reducible refine wpList_store_row rfl 50 (.tmp 4) (.tmp 40) rfl w.heap.size _ rfl rfl 50 _ Z4.out (size50A _ _ _ _) (ZP_PR _ _ _ _) (PR_one _ _ _ _ _ _ _ _) ?_)
        refine bodyPost_ret (v := .tuple #[.agg (PR (lo : Int) (L.length : Int) (.slice A1 m c1) (.slice A2 k2 c2)).toArray, .int .i64 0]) ?_ rfl ⟨_, rfl, ?_, belowRow K4.out.b (Nat.le_refl _) _⟩
        · have hr := run_loadVar_row (P := Tryd.prog) _ w.heap.size 50 50 (PR (lo : Int) (L.length : Int) (.slice A1 m c1) (.slice A2 k2 c2)).toArray (0, 0) _ (heap_setRow w4 w.heap.size (PR (lo : Int) (L.length : Int) (.slice A1 m c1) (.slice A2 k2 c2)).toArray _ 50 Z4.out) Tryd.underlying50 rfl (size50A _ _ _ _)
          simp [results, Tryd.results22, asAddr, hr]
        · rw [HR.out]
          exact (HP4.out.keep (by simp) (fun k hk hb => heap_setRow_other _ _ _ _ (by have := L3.out; omega))).mono (by have := L3.out; omega)
      · obtain ⟨g, o, rfl, hg, hc⟩ := leaf_cells H.out.rd n h1
        have c1 := (hc n h1).1
        obtain ⟨x, hx⟩ : ∃ x, x = L[n].1 := ⟨_, rfl⟩
        rw [← hx] at c1 hne
        have i2 : (x.toList == key.toList) = false := by rw [beq_eq_false_iff_ne]; exact fun e => hne (str_ext e)
        have CC := Lib.hid c1
        have HG := Lib.hid hg
        have i1 : (n : Int) < (L.length : Int) := by omega
        clear hx hne hc c1 hg
        go_enter Tryd.func22, Tryd.ntmps22
        go_upto_region 4 with (go_at_call 15; rw [← HW.out]; refine HV.out.mono ?_; rintro e w2 ⟨rfl, hb2⟩; have HB2 := Lib.hid hb2; clear hb2)
        have K2 := Lib.hid (K1.out.below HB2.out)
        go_upto_region 5 with (go_at_call 54; refine (HC.out _ K2.out.b).mono ?_; rintro e w3 ⟨rfl, hb3⟩; have HB3 := Lib.hid hb3; clear hb3)
        have K3 := Lib.hid (K2.out.below HB3.out)
        have hcl : w3.cell? ⟨g, o + n * 2, none⟩ = some (.string x) := (K3.out.b.cell (p := ⟨g, o + n * 2, none⟩) HG.out).trans CC.out
        clear HB2 HB3 HV HC
        go_wp2_with fail
        refine (HP.out _ ((n : Int) - 1) ((n : Int) + 1) lo hi m K3.out.b HM.out.1.1 HM.out.1.2.1 HM.out.1.2.2.1 HM.out.1.2.2.2 HM.out.2.1 HM.out.2.2).mono ?_; rintro e w4 ⟨A1, c1, A2, k2, c2, rfl, hp4, hb4⟩
        have K4 := Lib.hid (K3.out.below hb4)
        have HP4 := Lib.hid hp4
        have Z4 := Lib.hid (show w4.heap[w.heap.size]? = some (.cells ZP.toArray 50 (0, 0)) from K4.out.z)
        have L3 := Lib.hid K3.out.z.lt
        clear hp4 hb4
        go_wp2_with (with_reducible refine wpList_store_row rfl 50 (.tmp 4) (.tmp 40) rfl w.heap.size _ rfl rfl 50 _ Z4.out (size50A _ _ _ _) (ZP_PR _ _ _ _) (PR_one _ _ _ _ _ _ _ _) ?_)
        refine bodyPost_ret (v := .tuple #[.agg (PR (lo : Int) (L.length : Int) (.slice A1 m c1) (.slice A2 k2 c2)).toArray, .int .i64 0]) ?_ rfl ⟨_, rfl, ?_, belowRow K4.out.b (Nat.le_refl _) _⟩
        · have hr := run_loadVar_row (P := Tryd.prog) _ w.heap.size 50 50 (PR (lo : Int) (L.length : Int) (.slice A1 m c1) (.slice A2 k2 c2)).toArray (0, 0) _ (heap_setRow w4 w.heap.size (PR (lo : Int) (L.length : Int) (.slice A1 m c1) (.slice A2 k2 c2)).toArray _ 50 Z4.out) Tryd.underlying50 rfl (size50A _ _ _ _)
          simp [results, Tryd.results22, asAddr, hr]
        · rw [HR.out]
          exact (HP4.out.keep (by simp) (fun k hk hb => heap_setRow_other _ _ _ _ (by have := L3.out; omega))).mono (by have := L3.out; omega)
  · have c61 : (V == 0) = false := by rw [beq_eq_false_iff_ne]; exact hv
    have HR := Lib.hid (show (proveR node lf top L key).1 = noPf by unfold proveR; rw [if_neg (by rw [← HVE.out]; exact hv)])
    have ZS := Lib.hid (show (Tryd.prog.info? 50).map (·.size) = some ZP.toArray.size from size50A _ _ _ _)
    clear hv
    go_enter Tryd.func22, Tryd.ntmps22
    go_upto_region 3 with (go_at_call 15; rw [← HW.out]; refine HV.out.mono ?_; rintro e w2 ⟨rfl, hb2⟩; have HB2 := Lib.hid hb2; clear hb2)
    have K2 := Lib.hid (K1.out.below HB2.out)
    have Z5 := Lib.hid (show w2.heap[w.heap.size]? = some (.cells ZP.toArray 50 (0, 0)) from K2.out.z)
    go_wp2_with (with_reducible refine wpList_store_row rfl 50 (.tmp 4) (.tmp 12) rfl w.heap.size ZP.toArray rfl rfl 50 _ Z5.out ZS.out rfl ZP_one ?_)
    refine bodyPost_ret (v := .tuple #[.agg ZP.toArray, .int .i64 V]) ?_ rfl ⟨_, rfl, by rw [HR.out]; exact noPf_V _ _, belowRow K2.out.b (Nat.le_refl _) _⟩
    have hr := run_loadVar_row (P := Tryd.prog) _ w.heap.size 50 50 ZP.toArray (0, 0) _ (heap_setRow w2 w.heap.size ZP.toArray _ 50 Z5.out) Tryd.underlying50 rfl ZS.out
    simp [results, Tryd.results22, asAddr, hr]
end Go.Proofs.YtofccgkgjcnfbaaDoor
