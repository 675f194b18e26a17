/-
  The contracts of merkle's Root, Prove, Range, Check and CheckRange.
  Conditions: at most 2^30 leaves, keys and values of at most 2^30 bytes; the table of the round constants is as the text lays it.
-/
import Derived.Test.YtofccgkgjcnfbaaDoorZ
import Derived.Test.YtofccgkgjcnfbaaDoorIs
import Derived.Test.YtofccgkgjcnfbaaDoorValids
set_option linter.unusedSimpArgs false
namespace Go.Proofs.YtofccgkgjcnfbaaDoor
open Go.RowKit Wr Sh
set_option linter.unusedVariables false
set_option maxRecDepth 100000
structure LsAt (W : World) (B : Nat) (A : Option Addr) (L : List Lf) (c : Nat) : Prop where
 rd : Rd W B A (LC L)
 cap : L.length ≤ c
 nil : A = none → c = 0
 ok : okL L
def Z16L : List UInt8 := List.replicate 16 0
def rootR (L : List Lf) : List UInt8 := if validE L = 0 then rootD node lf top L else Z16L
theorem rootD_len (L : List Lf) : (rootD node lf top L).length = 16 := by
 unfold rootD rootRun top; split <;> exact dof_len _ _
theorem rootR_len (L : List Lf) : (rootR L).length = 16 := by
 unfold rootR; split
 ·
  exact rootD_len L
 ·
  rfl
structure Kz (w : World) (t : TypeId) (cs : List Value) (W : World) : Prop where
 z : Blk W w.heap.size t cs
 b : Below w.heap.size w W
theorem Kz.first {w W1 : World} {t : TypeId} {cs : List Value} (h : W1 = w.alloc (.cells cs.toArray t)) : Kz w t cs W1 := by
 subst h; exact ⟨Blk.new w t cs, (Below.refl _ _).alloc (Nat.le_refl _) _⟩
theorem Kz.below {w W W' : World} {t : TypeId} {cs : List Value} (h : Kz w t cs W) (hb : Below W.heap.size W W') : Kz w t cs W' := ⟨h.z.below hb h.z.lt, h.b.trans (hb.mono h.b.size)⟩
theorem LsAt.below {W W' : World} {B : Nat} {A : Option Addr} {L : List Lf} {c : Nat} (h : LsAt W B A L c) (hb : Below B W W') : LsAt W' B A L c := ⟨h.rd.below hb, h.cap, h.nil, h.ok⟩
theorem LsAt.more {W : World} {B B' : Nat} {A : Option Addr} {L : List Lf} {c : Nat} (h : LsAt W B A L c) (hb : B ≤ B') : LsAt W B' A L c := ⟨h.rd.more hb, h.cap, h.nil, h.ok⟩
set_option maxHeartbeats 4000000 in
theorem root_any (A : Option Addr) (L : List Lf) (c : Nat) (w : World) (h : LsAt w w.heap.size A L c) (ht : Tab 1 w) (R : List UInt8) (hR : Hid (R = rootR L)) :
  Calls Tryd.prog 12 #[.slice A L.length c] w fun e w' => e = .returned (.tuple #[.agg (B8 R).toArray, .int .i64 (validE L)]) ∧ Below w.heap.size w w' := by
 have hZ := hZ16
 obtain ⟨W1, hW1⟩ : ∃ W, W = w.alloc (.cells Z16.toArray 29) := ⟨_, rfl⟩
 have K1 := Lh (Kz.first hW1)
 have HW := Lh hW1
 have H := Lh h
 have HT := Lh ht
 have HRl := Lh (show R.length = 16 by rw [hR.out]; exact rootR_len L)
 have hln := h.ok.1
 obtain ⟨V, hV⟩ : ∃ V, V = validE L := ⟨_, rfl⟩
 have HV := Lh (valid_any A L c W1 h.ok ((h.below K1.out.b).more K1.out.b.size).rd)
 rw [← hV] at HV ⊢
 have HVE := Lh hV
 clear h ht hW1 hV
 by_cases hv : V = 0
 ·
  subst hv
  have HRD := Lh (show R = rootD node lf top L by rw [hR.out]; unfold rootR; rw [if_pos HVE.out.symm])
  go_enter Tryd.func12, Tryd.ntmps12
  go_upto_region 4 with (go_at_call 15; rw [← HW.out]; refine HV.out.mono ?_; rintro e w2 ⟨rfl, hb2⟩; have HB2 := Lh hb2; clear hb2)
  have K2 := Lh (K1.out.below HB2.out)
  obtain ⟨W3, hW3⟩ : ∃ W, W = w2.alloc (.cells #[.slice A L.length c] 33) := ⟨_, rfl⟩
  have hb3 : Below w2.heap.size w2 W3 := by rw [hW3]; exact (Below.refl _ _).alloc (Nat.le_refl _) _
  have K3 := Lh (K2.out.below hb3)
  have hs3 : W3.heap.size = w2.heap.size + 1 := by rw [hW3]; simp
  have told := toldSingle w.heap.size W3.heap.size w2.heap.size A L c (by omega) HT.out.1 K3.out.b.size H.out.ok
  have HC := Lh (rootOf_any told hln L.length () (fun _ => False) W3 (Nat.le_refl _) ⟨fun _ => id, Nat.le_refl _, {
   cell := by rw [hW3]; exact ((Blk.new w2 33 [.slice A L.length c]).cell 0).trans rfl
   rd := H.out.rd.below K3.out.b
   tab := HT.out.below K3.out.b HT.out.1 }⟩ trivial)
  have HRT := Lh (show (rootRun node top (gSingle (leafAt lf L)) () L.length).1 = R from HRD.out.symm)
  rw [HRT.out] at HC
  have HW3 := Lh hW3
  clear hW3 hb3 hs3 told HV
  go_wp2_with (first
   | (go_at_call 51; refine (digestOf_any A L.length c _).mono ?_; rintro e w3 ⟨rfl, rfl⟩))
  rw [← HW3.out]
  refine HC.out.mono ?_; rintro e w5 ⟨rfl, O5, _, F5⟩
  have K5 := Lh (K3.out.below F5.toBelow)
  have Z5 := Lh (show w5.heap[w.heap.size]? = some (.cells Z16.toArray 29 (0, 0)) from K5.out.z)
  clear F5
  go_wp2_with (with_reducible refine wpList_store_row rfl 29 (.tmp 2) (.tmp 15) rfl w.heap.size (B8 R).toArray rfl rfl 29 _ Z5.out (size29' _ HRl.out) (Z16_size _ HRl.out) (one8 _) ?_)
  refine bodyPost_ret (v := .tuple #[.agg (B8 R).toArray, .int .i64 0]) ?_ rfl ⟨rfl, belowRow K5.out.b (Nat.le_refl _) _⟩
  have hr := run_loadVar_row (P := Tryd.prog) _ w.heap.size 29 29 (B8 R).toArray (0, 0) (.array 16 5) (heap_setRow w5 w.heap.size (B8 R).toArray _ 29 Z5.out) Tryd.underlying29 rfl (size29' _ HRl.out)
  simp [results, Tryd.results12, asAddr, hr]
 ·
  have c61 : (V == 0) = false := by rw [beq_eq_false_iff_ne]; exact hv
  have HRD := Lh (show R = Z16L by rw [hR.out]; unfold rootR; rw [if_neg (by rw [← HVE.out]; exact hv)])
  have ZO := Lh (show Z16.toArray.all (·.oneCell') = true from one8 (List.replicate 16 0))
  have ZS := Lh (show (Tryd.prog.info? 29).map (·.size) = some Z16.toArray.size from size29' (List.replicate 16 0) rfl)
  clear hv
  go_enter Tryd.func12, Tryd.ntmps12
  go_upto_region 3 with (go_at_call 15; rw [← HW.out]; refine HV.out.mono ?_; rintro e w2 ⟨rfl, hb2⟩; have HB2 := Lh hb2; clear hb2)
  have K2 := Lh (K1.out.below HB2.out)
  have Z5 := Lh (show w2.heap[w.heap.size]? = some (.cells Z16.toArray 29 (0, 0)) from K2.out.z)
  go_wp2_with (with_reducible refine wpList_store_row rfl 29 (.tmp 2) (.tmp 9) rfl w.heap.size Z16.toArray rfl rfl 29 _ Z5.out ZS.out rfl ZO.out ?_)
  refine bodyPost_ret (v := .tuple #[.agg Z16.toArray, .int .i64 V]) ?_ rfl ⟨by rw [HRD.out]; rfl, belowRow K2.out.b (Nat.le_refl _) _⟩
  have hr := run_loadVar_row (P := Tryd.prog) _ w.heap.size 29 29 Z16.toArray (0, 0) (.array 16 5) (heap_setRow w2 w.heap.size Z16.toArray _ 29 Z5.out) Tryd.underlying29 rfl ZS.out
  simp [results, Tryd.results12, asAddr, hr]
end Go.Proofs.YtofccgkgjcnfbaaDoor
namespace Go.Proofs.YtofccgkgjcnfbaaDoor
open Go.RowKit Wr Sh
set_option linter.unusedVariables false
set_option maxRecDepth 100000
theorem str_ext {a b : ByteArray} (h : a.toList = b.toList) : a = b := by
 rw [Lib.toList_data, Lib.toList_data] at h
 cases a; cases b; simp_all
theorem noPf_V (b : Nat) (W : World) : ProofV b W noPf (.agg ZP.toArray) := ⟨none, 0, none, 0, rfl, ⟨Nat.le_refl _, fun _ => rfl⟩, ⟨Nat.le_refl _, fun _ => rfl⟩, fun h => absurd rfl h, fun h => absurd rfl h, ⟨(fun _ h => by cases h), (fun _ h => by cases h)⟩, (fun d h => by cases h)⟩
theorem ZP_one : ZP.toArray.all (·.oneCell') = true := PR_one _ _ _ _ _ _ _ _
theorem proof_any (A : Option Addr) (L : List Lf) (c : Nat) (f e : Int) (first last m : Nat) (w : World) (hL : okL L) (hc : L.length ≤ c) (hnil : A = none → c = 0) (hf : max f 0 = (first : Int)) (he : min e (L.length : Int) = (last : Int)) (hfl : first ≤ last) (hm : last - first = m) (hr : Rd w w.heap.size A (LC L)) (ht : Tab 1 w) (hof : okInt f) (hoe : okInt e) :
  Calls Tryd.prog 55 #[.slice A L.length c, .int .i64 f, .int .i64 e] w fun en w' => ∃ A1 c1 A2 k2 c2, en = .returned (.agg (PR (first : Int) (L.length : Int) (.slice A1 m c1) (.slice A2 k2 c2)).toArray) ∧ ProofV w.heap.size w' (shown node lf top L first last) (.agg (PR (first : Int) (L.length : Int) (.slice A1 m c1) (.slice A2 k2 c2)).toArray) ∧ Below w.heap.size w w' := by
 refine (proofOf_any A L c f e first last w hL hc hnil hf he hfl hr ht hof hoe).mono ?_
 rintro en w' ⟨v, rfl, hp, hb'⟩
 have hp0 := hp
 obtain ⟨A1, c1, A2, c2, e, _⟩ := hp
 have e2 : v = .agg (PR (first : Int) (L.length : Int) (.slice A1 m c1) (.slice A2 (shown node lf top L first last).sides.length c2)).toArray := by
  rw [e]
  have : (cut L first last).length = m := by rw [cut_len L first last (by omega)]; exact hm
  show Value.agg #[.int .i64 (first : Int), .int .i64 (L.length : Int), .slice A1 (cut L first last).length c1, _] = _
  rw [this]; rfl
 exact ⟨A1, c1, A2, _, c2, by rw [e2], by rw [← e2]; exact hp0, hb'⟩
set_option maxHeartbeats 4000000 in
theorem prove_any (A : Option Addr) (L : List Lf) (c : Nat) (key : ByteArray) (w : World) (h : LsAt w w.heap.size A L c) (ht : Tab 1 w) :
  Calls Tryd.prog 22 #[.slice A L.length c, .string key] w fun e w' => ∃ v, e = .returned (.tuple #[v, .int .i64 (validE L)]) ∧ ProofV w.heap.size w' (proveR node lf top L key).1 v ∧ Below w.heap.size w w' := by
 have hZ := hZP
 obtain ⟨W1, hW1⟩ : ∃ W, W = w.alloc (.cells ZP.toArray 50) := ⟨_, rfl⟩
 have K1 := Lh (Kz.first hW1)
 have HW := Lh hW1
 have H := Lh h
 have HT := Lh ht
 have hln := h.ok.1
 obtain ⟨V, hV⟩ : ∃ V, V = validE L := ⟨_, rfl⟩
 have HV := Lh (valid_any A L c W1 h.ok ((h.below K1.out.b).more K1.out.b.size).rd)
 rw [← hV] at HV ⊢
 have HVE := Lh hV
 clear h ht hW1 hV
 by_cases hv : V = 0
 ·
  subst hv
  obtain ⟨v1, v2, v3⟩ := valid_ok HVE.out.symm
  obtain ⟨n, hn⟩ : ∃ n, n = cb L key := ⟨_, rfl⟩
  have hnl : n ≤ L.length := by rw [hn]; exact cb_le L key
  have HC : Hid (∀ W, Below w.heap.size w W → Calls Tryd.prog 54 #[.slice A L.length c, .string key] W fun e w' => e = .returned (.int .i64 (n : Int)) ∧ Below W.heap.size W w') := Lh (fun W hb => by
   rw [hn]; exact count_any A L c key W hln v3 ((H.out.below hb).more hb.size).rd)
  have HP : Hid (∀ W (f e : Int) (first last m : Nat), Below w.heap.size w W → max f 0 = (first : Int) → min e (L.length : Int) = (last : Int) → first ≤ last → last - first = m → okInt f → okInt e → Calls Tryd.prog 55 #[.slice A L.length c, .int .i64 f, .int .i64 e] W fun en w' => ∃ A1 c1 A2 k2 c2, en = .returned (.agg (PR (first : Int) (L.length : Int) (.slice A1 m c1) (.slice A2 k2 c2)).toArray) ∧ ProofV W.heap.size w' (shown node lf top L first last) (.agg (PR (first : Int) (L.length : Int) (.slice A1 m c1) (.slice A2 k2 c2)).toArray) ∧ Below W.heap.size W w') := Lh (fun W f e first last m hb h1 h2 h3 hm h4 h5 => proof_any A L c f e first last m W H.out.ok H.out.cap H.out.nil h1 h2 h3 hm ((H.out.below hb).more hb.size).rd (HT.out.below hb HT.out.1) h4 h5)
  by_cases hit : hitB L key = true
  ·
   obtain ⟨h1, h2⟩ : n < L.length ∧ (L.getD n (ByteArray.empty, ByteArray.empty)).1 = key := by
    unfold hitB at hit; rw [← hn] at hit; simpa using hit
   have HR := Lh (show (proveR node lf top L key).1 = shown node lf top L n (n + 1) by
    unfold proveR; rw [if_pos HVE.out.symm, if_pos hit, ← hn])
   rw [List.getD_eq_getElem?_getD, List.getElem?_eq_getElem h1] at h2
   have h2' : L[n].1 = key := h2
   obtain ⟨g, o, rfl, hg, hc⟩ := leaf_cells H.out.rd n h1
   have c1 := (hc n h1).1
   rw [h2'] at c1
   have CC := Lh c1
   have HG := Lh hg
   have i1 : (n : Int) < (L.length : Int) := by omega
   clear hn hit h2 h2' hc c1 hg v2 v3
   go_enter Tryd.func22, Tryd.ntmps22
   go_upto_region 4 with (go_at_call 15; rw [← HW.out]; refine HV.out.mono ?_; rintro e w2 ⟨rfl, hb2⟩; have HB2 := Lh hb2; clear hb2)
   have K2 := Lh (K1.out.below HB2.out)
   go_upto_region 5 with (go_at_call 54; refine (HC.out _ K2.out.b).mono ?_; rintro e w3 ⟨rfl, hb3⟩; have HB3 := Lh hb3; clear hb3)
   have K3 := Lh (K2.out.below HB3.out)
   have hcl : w3.cell? ⟨g, o + n * 2, none⟩ = some (.string key) := (K3.out.b.cell (p := ⟨g, o + n * 2, none⟩) HG.out).trans CC.out
   clear HB2 HB3 HV HC
   go_wp2_with fail
   refine (HP.out _ (n : Int) ((n : Int) + 1) n (n + 1) 1 K3.out.b (by omega) (by omega) (by omega) (by omega) ⟨by omega, by omega⟩ ⟨by omega, by omega⟩).mono ?_; rintro e w4 ⟨A1, c1, A2, k2, c2, rfl, hp4, hb4⟩
   have K4 := Lh (K3.out.below hb4)
   have HP4 := Lh hp4
   have Z4 := Lh (show w4.heap[w.heap.size]? = some (.cells ZP.toArray 50 (0, 0)) from K4.out.z)
   have L3 := Lh K3.out.z.lt
   clear hp4 hb4 hcl
   go_wp2_with (with_reducible refine wpList_store_row rfl 50 (.tmp 4) (.tmp 34) rfl w.heap.size _ rfl rfl 50 _ Z4.out (size50A _ _ _ _) (ZP_PR _ _ _ _) (PR_one _ _ _ _ _ _ _ _) ?_)
   refine bodyPost_ret (v := .tuple #[.agg (PR (n : Int) (L.length : Int) (.slice A1 1 c1) (.slice A2 k2 c2)).toArray, .int .i64 0]) ?_ rfl ⟨_, rfl, ?_, belowRow K4.out.b (Nat.le_refl _) _⟩
   ·
    have hr := run_loadVar_row (P := Tryd.prog) _ w.heap.size 50 50 (PR (n : Int) (L.length : Int) (.slice A1 1 c1) (.slice A2 k2 c2)).toArray (0, 0) _ (heap_setRow w4 w.heap.size (PR (n : Int) (L.length : Int) (.slice A1 1 c1) (.slice A2 k2 c2)).toArray _ 50 Z4.out) Tryd.underlying50 rfl (size50A _ _ _ _)
    simp [results, Tryd.results22, asAddr, hr]
   ·
    rw [HR.out]
    exact (HP4.out.keep (by simp) (fun k hk hb => heap_setRow_other _ _ _ _ (by have := L3.out; omega))).mono (by have := L3.out; omega)
  ·
   obtain ⟨lo, hlo⟩ : ∃ lo, lo = n - 1 := ⟨_, rfl⟩
   obtain ⟨hi, hhi⟩ : ∃ hi, hi = min (n + 1) L.length := ⟨_, rfl⟩
   obtain ⟨m, hm⟩ : ∃ m, m = hi - lo := ⟨_, rfl⟩
   have HR := Lh (show (proveR node lf top L key).1 = shown node lf top L lo hi by
    unfold proveR; rw [if_pos HVE.out.symm, if_neg hit, ← hn, hlo, hhi])
   have HM := Lh (show (max ((n : Int) - 1) 0 = (lo : Int) ∧ min ((n : Int) + 1) (L.length : Int) = (hi : Int) ∧ lo ≤ hi ∧ hi - lo = m) ∧ okInt ((n : Int) - 1) ∧ okInt ((n : Int) + 1) from ⟨⟨by omega, by omega, by omega, hm.symm⟩, ⟨by omega, by omega⟩, ⟨by omega, by omega⟩⟩)
   have hcs : ¬ n < L.length ∨ ∃ (h : n < L.length), L[n].1 ≠ key := by
    rcases Nat.lt_or_ge n L.length with h | h
    ·
     right; refine ⟨h, fun e => hit ?_⟩
     unfold hitB; rw [← hn]
     rw [List.getD_eq_getElem?_getD, List.getElem?_eq_getElem h]
     simp [h, e]
    ·
     left; omega
   clear hlo hhi hm hn hit v2 v3
   rcases hcs with hcs | ⟨h1, hne⟩
   ·
    have i1 : ¬ (n : Int) < (L.length : Int) := by omega
    go_enter Tryd.func22, Tryd.ntmps22
    go_upto_region 4 with (go_at_call 15; rw [← HW.out]; refine HV.out.mono ?_; rintro e w2 ⟨rfl, hb2⟩; have HB2 := Lh hb2; clear hb2)
    have K2 := Lh (K1.out.below HB2.out)
    go_upto_region 5 with (go_at_call 54; refine (HC.out _ K2.out.b).mono ?_; rintro e w3 ⟨rfl, hb3⟩; have HB3 := Lh hb3; clear hb3)
    have K3 := Lh (K2.out.below HB3.out)
    clear HB2 HB3 HV HC
    go_wp2_with fail
    refine (HP.out _ ((n : Int) - 1) ((n : Int) + 1) lo hi m K3.out.b HM.out.1.1 HM.out.1.2.1 HM.out.1.2.2.1 HM.out.1.2.2.2 HM.out.2.1 HM.out.2.2).mono ?_; rintro e w4 ⟨A1, c1, A2, k2, c2, rfl, hp4, hb4⟩
    have K4 := Lh (K3.out.below hb4)
    have HP4 := Lh hp4
    have Z4 := Lh (show w4.heap[w.heap.size]? = some (.cells ZP.toArray 50 (0, 0)) from K4.out.z)
    have L3 := Lh K3.out.z.lt
    clear hp4 hb4
    go_wp2_with (with_reducible refine wpList_store_row rfl 50 (.tmp 4) (.tmp 40) rfl w.heap.size _ rfl rfl 50 _ Z4.out (size50A _ _ _ _) (ZP_PR _ _ _ _) (PR_one _ _ _ _ _ _ _ _) ?_)
    refine bodyPost_ret (v := .tuple #[.agg (PR (lo : Int) (L.length : Int) (.slice A1 m c1) (.slice A2 k2 c2)).toArray, .int .i64 0]) ?_ rfl ⟨_, rfl, ?_, belowRow K4.out.b (Nat.le_refl _) _⟩
    ·
     have hr := run_loadVar_row (P := Tryd.prog) _ w.heap.size 50 50 (PR (lo : Int) (L.length : Int) (.slice A1 m c1) (.slice A2 k2 c2)).toArray (0, 0) _ (heap_setRow w4 w.heap.size (PR (lo : Int) (L.length : Int) (.slice A1 m c1) (.slice A2 k2 c2)).toArray _ 50 Z4.out) Tryd.underlying50 rfl (size50A _ _ _ _)
     simp [results, Tryd.results22, asAddr, hr]
    ·
     rw [HR.out]
     exact (HP4.out.keep (by simp) (fun k hk hb => heap_setRow_other _ _ _ _ (by have := L3.out; omega))).mono (by have := L3.out; omega)
   ·
    obtain ⟨g, o, rfl, hg, hc⟩ := leaf_cells H.out.rd n h1
    have c1 := (hc n h1).1
    obtain ⟨x, hx⟩ : ∃ x, x = L[n].1 := ⟨_, rfl⟩
    rw [← hx] at c1 hne
    have i2 : (x.toList == key.toList) = false := by rw [beq_eq_false_iff_ne]; exact fun e => hne (str_ext e)
    have CC := Lh c1
    have HG := Lh hg
    have i1 : (n : Int) < (L.length : Int) := by omega
    clear hx hne hc c1 hg
    go_enter Tryd.func22, Tryd.ntmps22
    go_upto_region 4 with (go_at_call 15; rw [← HW.out]; refine HV.out.mono ?_; rintro e w2 ⟨rfl, hb2⟩; have HB2 := Lh hb2; clear hb2)
    have K2 := Lh (K1.out.below HB2.out)
    go_upto_region 5 with (go_at_call 54; refine (HC.out _ K2.out.b).mono ?_; rintro e w3 ⟨rfl, hb3⟩; have HB3 := Lh hb3; clear hb3)
    have K3 := Lh (K2.out.below HB3.out)
    have hcl : w3.cell? ⟨g, o + n * 2, none⟩ = some (.string x) := (K3.out.b.cell (p := ⟨g, o + n * 2, none⟩) HG.out).trans CC.out
    clear HB2 HB3 HV HC
    go_wp2_with fail
    refine (HP.out _ ((n : Int) - 1) ((n : Int) + 1) lo hi m K3.out.b HM.out.1.1 HM.out.1.2.1 HM.out.1.2.2.1 HM.out.1.2.2.2 HM.out.2.1 HM.out.2.2).mono ?_; rintro e w4 ⟨A1, c1, A2, k2, c2, rfl, hp4, hb4⟩
    have K4 := Lh (K3.out.below hb4)
    have HP4 := Lh hp4
    have Z4 := Lh (show w4.heap[w.heap.size]? = some (.cells ZP.toArray 50 (0, 0)) from K4.out.z)
    have L3 := Lh K3.out.z.lt
    clear hp4 hb4
    go_wp2_with (with_reducible refine wpList_store_row rfl 50 (.tmp 4) (.tmp 40) rfl w.heap.size _ rfl rfl 50 _ Z4.out (size50A _ _ _ _) (ZP_PR _ _ _ _) (PR_one _ _ _ _ _ _ _ _) ?_)
    refine bodyPost_ret (v := .tuple #[.agg (PR (lo : Int) (L.length : Int) (.slice A1 m c1) (.slice A2 k2 c2)).toArray, .int .i64 0]) ?_ rfl ⟨_, rfl, ?_, belowRow K4.out.b (Nat.le_refl _) _⟩
    ·
     have hr := run_loadVar_row (P := Tryd.prog) _ w.heap.size 50 50 (PR (lo : Int) (L.length : Int) (.slice A1 m c1) (.slice A2 k2 c2)).toArray (0, 0) _ (heap_setRow w4 w.heap.size (PR (lo : Int) (L.length : Int) (.slice A1 m c1) (.slice A2 k2 c2)).toArray _ 50 Z4.out) Tryd.underlying50 rfl (size50A _ _ _ _)
     simp [results, Tryd.results22, asAddr, hr]
    ·
     rw [HR.out]
     exact (HP4.out.keep (by simp) (fun k hk hb => heap_setRow_other _ _ _ _ (by have := L3.out; omega))).mono (by have := L3.out; omega)
 ·
  have c61 : (V == 0) = false := by rw [beq_eq_false_iff_ne]; exact hv
  have HR := Lh (show (proveR node lf top L key).1 = noPf by unfold proveR; rw [if_neg (by rw [← HVE.out]; exact hv)])
  have ZS := Lh (show (Tryd.prog.info? 50).map (·.size) = some ZP.toArray.size from size50A _ _ _ _)
  clear hv
  go_enter Tryd.func22, Tryd.ntmps22
  go_upto_region 3 with (go_at_call 15; rw [← HW.out]; refine HV.out.mono ?_; rintro e w2 ⟨rfl, hb2⟩; have HB2 := Lh hb2; clear hb2)
  have K2 := Lh (K1.out.below HB2.out)
  have Z5 := Lh (show w2.heap[w.heap.size]? = some (.cells ZP.toArray 50 (0, 0)) from K2.out.z)
  go_wp2_with (with_reducible refine wpList_store_row rfl 50 (.tmp 4) (.tmp 12) rfl w.heap.size ZP.toArray rfl rfl 50 _ Z5.out ZS.out rfl ZP_one ?_)
  refine bodyPost_ret (v := .tuple #[.agg ZP.toArray, .int .i64 V]) ?_ rfl ⟨_, rfl, by rw [HR.out]; exact noPf_V _ _, belowRow K2.out.b (Nat.le_refl _) _⟩
  have hr := run_loadVar_row (P := Tryd.prog) _ w.heap.size 50 50 ZP.toArray (0, 0) _ (heap_setRow w2 w.heap.size ZP.toArray _ 50 Z5.out) Tryd.underlying50 rfl ZS.out
  simp [results, Tryd.results22, asAddr, hr]
end Go.Proofs.YtofccgkgjcnfbaaDoor
namespace Go.Proofs.YtofccgkgjcnfbaaDoor
open Go.RowKit Wr Sh
set_option linter.unusedVariables false
set_option maxRecDepth 100000
theorem lss_str (x y : ByteArray) : Op.bytesLess x.toList y.toList = sl x y := by
 rw [Go.Proofs.bytesLess_eq, Lib.toList_data, Lib.toList_data]; rfl
set_option maxHeartbeats 4000000 in
theorem range_any (A : Option Addr) (L : List Lf) (c : Nat) (k t : ByteArray) (w : World) (h : LsAt w w.heap.size A L c) (ht : Tab 1 w) :
  Calls Tryd.prog 24 #[.slice A L.length c, .string k, .string t] w fun e w' => ∃ v, e = .returned (.tuple #[v, .int .i64 (rangeR node lf top L k t).2]) ∧ ProofV w.heap.size w' (rangeR node lf top L k t).1 v ∧ Below w.heap.size w w' := by
 have hZ := hZP
 obtain ⟨W1, hW1⟩ : ∃ W, W = w.alloc (.cells ZP.toArray 50) := ⟨_, rfl⟩
 have K1 := Lh (Kz.first hW1)
 have HW := Lh hW1
 have H := Lh h
 have HT := Lh ht
 have hln := h.ok.1
 have ZS := Lh (show (Tryd.prog.info? 50).map (·.size) = some ZP.toArray.size from size50A _ _ _ _)
 obtain ⟨V, hV⟩ : ∃ V, V = validE L := ⟨_, rfl⟩
 have HV := Lh (valid_any A L c W1 h.ok ((h.below K1.out.b).more K1.out.b.size).rd)
 rw [← hV] at HV
 have HVE := Lh hV
 clear h ht hW1 hV
 by_cases hv : V = 0
 ·
  subst hv
  cases hs : sl t k with
  | true =>
   have HR := Lh (show rangeR node lf top L k t = (noPf, 5) by unfold rangeR; rw [if_pos HVE.out.symm, if_pos hs])
   have i1 : Op.bytesLess t.toList k.toList = true := by rw [lss_str]; exact hs
   clear hs
   go_enter Tryd.func24, Tryd.ntmps24
   go_upto_region 4 with (go_at_call 15; rw [← HW.out]; refine HV.out.mono ?_; rintro e w2 ⟨rfl, hb2⟩; have HB2 := Lh hb2; clear hb2)
   have K2 := Lh (K1.out.below HB2.out)
   have Z5 := Lh (show w2.heap[w.heap.size]? = some (.cells ZP.toArray 50 (0, 0)) from K2.out.z)
   go_wp2_with (with_reducible refine wpList_store_row rfl 50 (.tmp 6) (.tmp 18) rfl w.heap.size ZP.toArray rfl rfl 50 _ Z5.out ZS.out rfl ZP_one ?_)
   refine bodyPost_ret (v := .tuple #[.agg ZP.toArray, .int .i64 5]) ?_ rfl ⟨_, by rw [HR.out], by rw [HR.out]; exact noPf_V _ _, belowRow K2.out.b (Nat.le_refl _) _⟩
   have hr := run_loadVar_row (P := Tryd.prog) _ w.heap.size 50 50 ZP.toArray (0, 0) _ (heap_setRow w2 w.heap.size ZP.toArray _ 50 Z5.out) Tryd.underlying50 rfl ZS.out
   simp [results, Tryd.results24, asAddr, hr]
  | false =>
   obtain ⟨v1, v2, v3⟩ := valid_ok HVE.out.symm
   obtain ⟨n, hn⟩ : ∃ n, n = cb L k := ⟨_, rfl⟩
   obtain ⟨q, hq⟩ : ∃ q, q = cb L t := ⟨_, rfl⟩
   have hnl : n ≤ L.length := by rw [hn]; exact cb_le L k
   have hql : q ≤ L.length := by rw [hq]; exact cb_le L t
   have hnq : n ≤ q := by rw [hn, hq]; exact cb_mono hs
   have HC : Hid (∀ W, Below w.heap.size w W → Calls Tryd.prog 54 #[.slice A L.length c, .string k] W fun e w' => e = .returned (.int .i64 (n : Int)) ∧ Below W.heap.size W w') := Lh (fun W hb => by
    rw [hn]; exact count_any A L c k W hln v3 ((H.out.below hb).more hb.size).rd)
   have HD : Hid (∀ W, Below w.heap.size w W → Calls Tryd.prog 54 #[.slice A L.length c, .string t] W fun e w' => e = .returned (.int .i64 (q : Int)) ∧ Below W.heap.size W w') := Lh (fun W hb => by
    rw [hq]; exact count_any A L c t W hln v3 ((H.out.below hb).more hb.size).rd)
   obtain ⟨lo, hlo⟩ : ∃ lo, lo = n - 1 := ⟨_, rfl⟩
   obtain ⟨hi, hhi⟩ : ∃ hi, hi = min (q + 1) L.length := ⟨_, rfl⟩
   obtain ⟨m, hm⟩ : ∃ m, m = hi - lo := ⟨_, rfl⟩
   have HR := Lh (show rangeR node lf top L k t = (shown node lf top L lo hi, 0) by
    unfold rangeR; rw [if_pos HVE.out.symm, if_neg (by rw [hs]; simp), ← hn, ← hq, hlo, hhi])
   have HP : Hid (∀ W, Below w.heap.size w W → Calls Tryd.prog 55 #[.slice A L.length c, .int .i64 ((n : Int) - 1), .int .i64 ((q : Int) + 1)] W fun en w' => ∃ A1 c1 A2 k2 c2, en = .returned (.agg (PR (lo : Int) (L.length : Int) (.slice A1 m c1) (.slice A2 k2 c2)).toArray) ∧ ProofV W.heap.size w' (shown node lf top L lo hi) (.agg (PR (lo : Int) (L.length : Int) (.slice A1 m c1) (.slice A2 k2 c2)).toArray) ∧ Below W.heap.size W w') := Lh (fun W hb => proof_any A L c _ _ lo hi m W H.out.ok H.out.cap H.out.nil (by omega) (by omega) (by omega) hm.symm ((H.out.below hb).more hb.size).rd (HT.out.below hb HT.out.1) ⟨by omega, by omega⟩ ⟨by omega, by omega⟩)
   have i1 : Op.bytesLess t.toList k.toList = false := by rw [lss_str]; exact hs
   clear hs hlo hhi hm hn hq hnq v2 v3
   go_enter Tryd.func24, Tryd.ntmps24
   go_upto_region 4 with (go_at_call 15; rw [← HW.out]; refine HV.out.mono ?_; rintro e w2 ⟨rfl, hb2⟩; have HB2 := Lh hb2; clear hb2)
   have K2 := Lh (K1.out.below HB2.out)
   go_wp2_with fail
   refine (HC.out _ K2.out.b).mono ?_; rintro e w3 ⟨rfl, hb3⟩
   have K3 := Lh (K2.out.below hb3)
   clear hb3
   go_wp2_with fail
   refine (HD.out _ K3.out.b).mono ?_; rintro e w3b ⟨rfl, hb3⟩
   have K3b := Lh (K3.out.below hb3)
   clear hb3
   go_wp2_with fail
   refine (HP.out _ K3b.out.b).mono ?_; rintro e w4 ⟨A1, c1, A2, k2, c2, rfl, hp4, hb4⟩
   have K4 := Lh (K3b.out.below hb4)
   have HP4 := Lh hp4
   have Z4 := Lh (show w4.heap[w.heap.size]? = some (.cells ZP.toArray 50 (0, 0)) from K4.out.z)
   have L3 := Lh K3b.out.z.lt
   clear hp4 hb4
   go_wp2_with (with_reducible refine wpList_store_row rfl 50 (.tmp 6) (.tmp 28) rfl w.heap.size _ rfl rfl 50 _ Z4.out (size50A _ _ _ _) (ZP_PR _ _ _ _) (PR_one _ _ _ _ _ _ _ _) ?_)
   refine bodyPost_ret (v := .tuple #[.agg (PR (lo : Int) (L.length : Int) (.slice A1 m c1) (.slice A2 k2 c2)).toArray, .int .i64 0]) ?_ rfl ⟨_, by rw [HR.out], ?_, belowRow K4.out.b (Nat.le_refl _) _⟩
   ·
    have hr := run_loadVar_row (P := Tryd.prog) _ w.heap.size 50 50 (PR (lo : Int) (L.length : Int) (.slice A1 m c1) (.slice A2 k2 c2)).toArray (0, 0) _ (heap_setRow w4 w.heap.size (PR (lo : Int) (L.length : Int) (.slice A1 m c1) (.slice A2 k2 c2)).toArray _ 50 Z4.out) Tryd.underlying50 rfl (size50A _ _ _ _)
    simp [results, Tryd.results24, asAddr, hr]
   ·
    rw [HR.out]
    exact (HP4.out.keep (by simp) (fun k hk hb => heap_setRow_other _ _ _ _ (by have := L3.out; omega))).mono (by have := L3.out; omega)
 ·
  have c61 : (V == 0) = false := by rw [beq_eq_false_iff_ne]; exact hv
  have HR := Lh (show rangeR node lf top L k t = (noPf, V) by unfold rangeR; rw [if_neg (by rw [← HVE.out]; exact hv), HVE.out])
  clear hv
  go_enter Tryd.func24, Tryd.ntmps24
  go_upto_region 3 with (go_at_call 15; rw [← HW.out]; refine HV.out.mono ?_; rintro e w2 ⟨rfl, hb2⟩; have HB2 := Lh hb2; clear hb2)
  have K2 := Lh (K1.out.below HB2.out)
  have Z5 := Lh (show w2.heap[w.heap.size]? = some (.cells ZP.toArray 50 (0, 0)) from K2.out.z)
  go_wp2_with (with_reducible refine wpList_store_row rfl 50 (.tmp 6) (.tmp 13) rfl w.heap.size ZP.toArray rfl rfl 50 _ Z5.out ZS.out rfl ZP_one ?_)
  refine bodyPost_ret (v := .tuple #[.agg ZP.toArray, .int .i64 V]) ?_ rfl ⟨_, by rw [HR.out], by rw [HR.out]; exact noPf_V _ _, belowRow K2.out.b (Nat.le_refl _) _⟩
  have hr := run_loadVar_row (P := Tryd.prog) _ w.heap.size 50 50 ZP.toArray (0, 0) _ (heap_setRow w2 w.heap.size ZP.toArray _ 50 Z5.out) Tryd.underlying50 rfl ZS.out
  simp [results, Tryd.results24, asAddr, hr]
set_option maxHeartbeats 8000000 in
theorem check_any (root : List UInt8) (key : ByteArray) (p : Pf) (A1 A2 : Option Addr) (c1 c2 : Nat) (w : World) (hroot : root.length = 16) (hp : PfAt w w.heap.size p A1 A2 c1 c2) (ht : Tab 1 w) :
  Calls Tryd.prog 29 #[.agg (B8 root).toArray, .string key, .agg #[.int .i64 p.first, .int .i64 p.size, .slice A1 p.leaves.length c1, .slice A2 p.sides.length c2]] w fun e w' =>
   e = .returned (.tuple #[.string (checkR node lf top root key p).1, .bool (checkR node lf top root key p).2.1, .int .i64 (checkR node lf top root key p).2.2]) ∧ Below w.heap.size w w' := by
 obtain ⟨r, hr⟩ : ∃ r, r = checkR node lf top root key p := ⟨_, rfl⟩
 rw [← hr]
 have HR := Lh hr
 clear hr
 obtain ⟨W1, hW1⟩ : ∃ W, W = (w.alloc (.cells (B8 root).toArray 29)).alloc (.cells #[.int .i64 p.first, .int .i64 p.size, .slice A1 p.leaves.length c1, .slice A2 p.sides.length c2] 50) := ⟨_, rfl⟩
 have hb1 : Below w.heap.size w W1 := by rw [hW1]; exact ((Below.refl w.heap.size w).alloc (Nat.le_refl _) _).alloc (by simp) _
 have HB1 := Lh hb1
 have P1 := Lh (show Blk W1 (w.heap.size + 1) 50 (PR p.first p.size (.slice A1 p.leaves.length c1) (.slice A2 p.sides.length c2)) by rw [hW1]; exact Blk.newAt _ _ 50 (PR p.first p.size (.slice A1 p.leaves.length c1) (.slice A2 p.sides.length c2)) (by simp))
 have R1 := Lh (show Blk W1 w.heap.size 29 (B8 root) by rw [hW1]; exact (Blk.new w 29 (B8 root)).alloc _)
 have HRl := Lh hroot
 have hp1 : PfAt W1 W1.heap.size p A1 A2 c1 c2 := ⟨(hp.r1.below hb1).more hb1.size, (hp.r2.below hb1).more hb1.size, hp.k1, hp.k2, hp.okl, hp.oks, hp.oki⟩
 have HU := Lh (under_any root p A1 A2 c1 c2 W1 hroot hp1 (ht.below hb1 ht.1))
 have HW := Lh hW1
 have L1 := Lh P1.out.at
 have L0 := Lh R1.out.at
 have HP := Lh hp
 have HT := Lh ht
 obtain ⟨f, sz, L, S⟩ := p
 dsimp only at *
 have hln := hp.okl.1
 cases hu : underB node lf top root ⟨f, sz, L, S⟩ with
 | false =>
  have HE := Lh (show r = (ByteArray.empty, false, 17) by rw [HR.out]; unfold checkR; rw [if_neg (by rw [hu]; simp)])
  rw [hu] at HU
  clear hu hp hp1 hb1 hW1 ht hroot
  go_enter Tryd.func29, Tryd.ntmps29
  go_upto_region 1 with fail
  rw [← HW.out]
  go_wp2_with (first
   | (refine wpList_load_at rfl 29 (.tmp 3) rfl ⟨w.heap.size, 0, none⟩ rfl (B8 root) (.array 16 5) L0.out Tryd.underlying29 rfl (size29 _ HRl.out) ?_)
   | (refine wpList_load_at rfl 50 (.tmp 5) rfl ⟨w.heap.size + 1, 0, none⟩ rfl (PR f sz (.slice A1 L.length c1) (.slice A2 S.length c2)) _ L1.out Tryd.underlying50 rfl (size50L _ _ _ _) ?_)
   | (go_at_call 59; refine HU.out.mono ?_; rintro e w2 ⟨rfl, hb2⟩; have HB2 := Lh hb2; clear hb2))
  go_ret3
  exact ⟨by rw [HE.out]; rfl, HB1.out.trans (HB2.out.mono HB1.out.size)⟩
 | true =>
  have hform : formP ⟨f, sz, L, S⟩ = true := by unfold underB at hu; exact (Bool.and_eq_true_iff.1 hu).1
  have hf0 : 0 ≤ f ∧ f ≤ 4096 ∧ ord L := by
   unfold formP at hform
   simp only [Bool.and_eq_true, decide_eq_true_eq] at hform
   obtain ⟨⟨⟨h1, h2, h3, h4⟩, _⟩, h5⟩ := hform
   exact ⟨h3, by omega, (valid_ok h5).2.2⟩
  obtain ⟨f0, f1, ho⟩ := hf0
  obtain ⟨n, hn⟩ : ∃ n, n = cb L key := ⟨_, rfl⟩
  have hnl : n ≤ L.length := by rw [hn]; exact cb_le L key
  have HC : Hid (∀ W, Below w.heap.size w W → Calls Tryd.prog 54 #[.slice A1 L.length c1, .string key] W fun e w' => e = .returned (.int .i64 (n : Int)) ∧ Below W.heap.size W w') := Lh (fun W hb => by
   rw [hn]; exact count_any A1 L c1 key W hln ho ((HP.out.r1.below hb).more hb.size))
  have HBD : Hid (∀ W, Calls Tryd.prog 60 #[.agg (PR f sz (.slice A1 L.length c1) (.slice A2 S.length c2)).toArray, .int .i64 (n : Int), .int .i64 (n : Int)] W fun en w' => en = .returned (.bool (bndB f sz L.length n n)) ∧ Below W.heap.size W w') := Lh (fun W => bounded_any f sz A1 A2 L.length c1 S.length c2 n n W f0 (by omega) hln)
  rw [hu] at HU
  by_cases hit : hitB L key = true
  ·
   obtain ⟨h1, h2⟩ : n < L.length ∧ (L.getD n (ByteArray.empty, ByteArray.empty)).1 = key := by
    unfold hitB at hit; rw [← hn] at hit; simpa using hit
   obtain ⟨v, hv⟩ : ∃ v, v = (L.getD n (ByteArray.empty, ByteArray.empty)).2 := ⟨_, rfl⟩
   have HE := Lh (show r = (v, true, 0) by rw [HR.out]; unfold checkR; rw [if_pos hu, if_pos hit, ← hn, hv])
   rw [List.getD_eq_getElem?_getD, List.getElem?_eq_getElem h1] at h2 hv
   have h2' : L[n].1 = key := h2
   have hv' : v = L[n].2 := hv
   obtain ⟨g, o, rfl, hg, hc⟩ := leaf_cells HP.out.r1 n h1
   obtain ⟨d1, d2⟩ := hc n h1
   rw [h2'] at d1
   rw [← hv'] at d2
   have CC := Lh (And.intro d1 d2)
   have HG := Lh hg
   have i1 : (n : Int) < (L.length : Int) := by omega
   clear hu hit h2 h2' hv hv' hc d1 d2 hg hn ho hform hp hp1 hb1 hW1 ht hroot
   go_enter Tryd.func29, Tryd.ntmps29
   go_upto_region 1 with fail
   rw [← HW.out]
   go_upto_region 3 with (first
    | (refine wpList_load_at rfl 29 (.tmp 3) rfl ⟨w.heap.size, 0, none⟩ rfl (B8 root) (.array 16 5) L0.out Tryd.underlying29 rfl (size29 _ HRl.out) ?_)
    | (refine wpList_load_at rfl 50 (.tmp 5) rfl ⟨w.heap.size + 1, 0, none⟩ rfl (PR f sz (.slice (some ⟨g, o, none⟩) L.length c1) (.slice A2 S.length c2)) _ L1.out Tryd.underlying50 rfl (size50L _ _ _ _) ?_)
    | (go_at_call 59; refine HU.out.mono ?_; rintro e w2 ⟨rfl, hb2⟩; have HB2 := Lh hb2; clear hb2))
   have P2 := Lh (P1.out.below HB2.out P1.out.lt)
   have B2 := Lh (HB1.out.trans (HB2.out.mono HB1.out.size))
   have q2 : w2.cell? ⟨w.heap.size + 1, 2, none⟩ = some (.slice (some ⟨g, o, none⟩) L.length c1) := (P2.out.cell 2).trans rfl
   go_upto_region 4 with (go_at_call 54; refine (HC.out _ B2.out).mono ?_; rintro e w3 ⟨rfl, hb3⟩; have HB3 := Lh hb3; clear hb3)
   have B3 := Lh (B2.out.trans (HB3.out.mono B2.out.size))
   have P3 := Lh (P2.out.below HB3.out P2.out.lt)
   have q3 : w3.cell? ⟨w.heap.size + 1, 2, none⟩ = some (.slice (some ⟨g, o, none⟩) L.length c1) := (P3.out.cell 2).trans rfl
   have q4 : w3.cell? ⟨g, o + n * 2, none⟩ = some (.string key) := (B3.out.cell (p := ⟨g, o + n * 2, none⟩) HG.out).trans CC.out.1
   have q5 : w3.cell? ⟨g, o + n * 2 + 1, none⟩ = some (.string v) := (B3.out.cell (p := ⟨g, o + n * 2 + 1, none⟩) HG.out).trans CC.out.2
   clear q2 HU HC HBD
   go_wp2_with fail
   go_ret3
   exact ⟨by rw [HE.out]; rfl, B3.out⟩
  ·
   have hcs : ¬ n < L.length ∨ ∃ (h : n < L.length), L[n].1 ≠ key := by
    rcases Nat.lt_or_ge n L.length with h | h
    ·
     right; refine ⟨h, fun e => hit ?_⟩
     unfold hitB; rw [← hn]
     rw [List.getD_eq_getElem?_getD, List.getElem?_eq_getElem h]
     simp [h, e]
    ·
     left; omega
   obtain ⟨b, hb⟩ : ∃ b, b = bndB f sz L.length n n := ⟨_, rfl⟩
   rw [← hb] at HBD
   have HE := Lh (show r = (ByteArray.empty, false, if b = true then 0 else 17) by
    rw [HR.out]; unfold checkR; rw [if_pos hu, if_neg hit, ← hn, hb]
    show (if bndB f sz L.length n n = true then _ else _) = _
    split <;> rfl)
   clear hu hit hn ho hform hp hp1 hb1 hW1 ht hroot hb
   have fin : ∀ b : Bool, True := fun _ => trivial
   rcases hcs with hcs | ⟨h1, hne⟩
   ·
    have i1 : ¬ (n : Int) < (L.length : Int) := by omega
    go_enter Tryd.func29, Tryd.ntmps29
    go_upto_region 1 with fail
    rw [← HW.out]
    go_upto_region 3 with (first
     | (refine wpList_load_at rfl 29 (.tmp 3) rfl ⟨w.heap.size, 0, none⟩ rfl (B8 root) (.array 16 5) L0.out Tryd.underlying29 rfl (size29 _ HRl.out) ?_)
     | (refine wpList_load_at rfl 50 (.tmp 5) rfl ⟨w.heap.size + 1, 0, none⟩ rfl (PR f sz (.slice A1 L.length c1) (.slice A2 S.length c2)) _ L1.out Tryd.underlying50 rfl (size50L _ _ _ _) ?_)
     | (go_at_call 59; refine HU.out.mono ?_; rintro e w2 ⟨rfl, hb2⟩; have HB2 := Lh hb2; clear hb2))
    have P2 := Lh (P1.out.below HB2.out P1.out.lt)
    have B2 := Lh (HB1.out.trans (HB2.out.mono HB1.out.size))
    have q2 : w2.cell? ⟨w.heap.size + 1, 2, none⟩ = some (.slice A1 L.length c1) := (P2.out.cell 2).trans rfl
    go_upto_region 4 with (go_at_call 54; refine (HC.out _ B2.out).mono ?_; rintro e w3 ⟨rfl, hb3⟩; have HB3 := Lh hb3; clear hb3)
    have B3 := Lh (B2.out.trans (HB3.out.mono B2.out.size))
    have P3 := Lh (P2.out.below HB3.out P2.out.lt)
    have q3 : w3.cell? ⟨w.heap.size + 1, 2, none⟩ = some (.slice A1 L.length c1) := (P3.out.cell 2).trans rfl
    have L3 := Lh P3.out.at
    clear q2 HU HC
    go_upto_region 6 with fail
    clear q3
    cases b with
    | true =>
     go_wp2_with (first
      | (refine wpList_load_at rfl 50 (.tmp 5) rfl ⟨w.heap.size + 1, 0, none⟩ rfl (PR f sz (.slice A1 L.length c1) (.slice A2 S.length c2)) _ L3.out Tryd.underlying50 rfl (size50L _ _ _ _) ?_)
      | (go_at_call 60; refine (HBD.out _).mono ?_; rintro e w4 ⟨rfl, hb4⟩; have HB4 := Lh hb4; clear hb4))
     go_ret3
     exact ⟨by rw [HE.out]; rfl, B3.out.trans (HB4.out.mono B3.out.size)⟩
    | false =>
     go_wp2_with (first
      | (refine wpList_load_at rfl 50 (.tmp 5) rfl ⟨w.heap.size + 1, 0, none⟩ rfl (PR f sz (.slice A1 L.length c1) (.slice A2 S.length c2)) _ L3.out Tryd.underlying50 rfl (size50L _ _ _ _) ?_)
      | (go_at_call 60; refine (HBD.out _).mono ?_; rintro e w4 ⟨rfl, hb4⟩; have HB4 := Lh hb4; clear hb4))
     go_ret3
     exact ⟨by rw [HE.out]; rfl, B3.out.trans (HB4.out.mono B3.out.size)⟩
   ·
    obtain ⟨g, o, rfl, hg, hc⟩ := leaf_cells HP.out.r1 n h1
    have d1 := (hc n h1).1
    obtain ⟨x, hx⟩ : ∃ x, x = L[n].1 := ⟨_, rfl⟩
    rw [← hx] at d1 hne
    have i2 : (x.toList == key.toList) = false := by rw [beq_eq_false_iff_ne]; exact fun e => hne (str_ext e)
    have CC := Lh d1
    have HG := Lh hg
    have i1 : (n : Int) < (L.length : Int) := by omega
    clear hx hne hc d1 hg
    go_enter Tryd.func29, Tryd.ntmps29
    go_upto_region 1 with fail
    rw [← HW.out]
    go_upto_region 3 with (first
     | (refine wpList_load_at rfl 29 (.tmp 3) rfl ⟨w.heap.size, 0, none⟩ rfl (B8 root) (.array 16 5) L0.out Tryd.underlying29 rfl (size29 _ HRl.out) ?_)
     | (refine wpList_load_at rfl 50 (.tmp 5) rfl ⟨w.heap.size + 1, 0, none⟩ rfl (PR f sz (.slice (some ⟨g, o, none⟩) L.length c1) (.slice A2 S.length c2)) _ L1.out Tryd.underlying50 rfl (size50L _ _ _ _) ?_)
     | (go_at_call 59; refine HU.out.mono ?_; rintro e w2 ⟨rfl, hb2⟩; have HB2 := Lh hb2; clear hb2))
    have P2 := Lh (P1.out.below HB2.out P1.out.lt)
    have B2 := Lh (HB1.out.trans (HB2.out.mono HB1.out.size))
    have q2 : w2.cell? ⟨w.heap.size + 1, 2, none⟩ = some (.slice (some ⟨g, o, none⟩) L.length c1) := (P2.out.cell 2).trans rfl
    go_upto_region 4 with (go_at_call 54; refine (HC.out _ B2.out).mono ?_; rintro e w3 ⟨rfl, hb3⟩; have HB3 := Lh hb3; clear hb3)
    have B3 := Lh (B2.out.trans (HB3.out.mono B2.out.size))
    have P3 := Lh (P2.out.below HB3.out P2.out.lt)
    have q3 : w3.cell? ⟨w.heap.size + 1, 2, none⟩ = some (.slice (some ⟨g, o, none⟩) L.length c1) := (P3.out.cell 2).trans rfl
    have q4 : w3.cell? ⟨g, o + n * 2, none⟩ = some (.string x) := (B3.out.cell (p := ⟨g, o + n * 2, none⟩) HG.out).trans CC.out
    have L3 := Lh P3.out.at
    clear q2 HU HC
    go_upto_region 6 with fail
    clear q3
    cases b with
    | true =>
     go_wp2_with (first
      | (refine wpList_load_at rfl 50 (.tmp 5) rfl ⟨w.heap.size + 1, 0, none⟩ rfl (PR f sz (.slice (some ⟨g, o, none⟩) L.length c1) (.slice A2 S.length c2)) _ L3.out Tryd.underlying50 rfl (size50L _ _ _ _) ?_)
      | (go_at_call 60; refine (HBD.out _).mono ?_; rintro e w4 ⟨rfl, hb4⟩; have HB4 := Lh hb4; clear hb4))
     go_ret3
     exact ⟨by rw [HE.out]; rfl, B3.out.trans (HB4.out.mono B3.out.size)⟩
    | false =>
     go_wp2_with (first
      | (refine wpList_load_at rfl 50 (.tmp 5) rfl ⟨w.heap.size + 1, 0, none⟩ rfl (PR f sz (.slice (some ⟨g, o, none⟩) L.length c1) (.slice A2 S.length c2)) _ L3.out Tryd.underlying50 rfl (size50L _ _ _ _) ?_)
      | (go_at_call 60; refine (HBD.out _).mono ?_; rintro e w4 ⟨rfl, hb4⟩; have HB4 := Lh hb4; clear hb4))
     go_ret3
     exact ⟨by rw [HE.out]; rfl, B3.out.trans (HB4.out.mono B3.out.size)⟩
end Go.Proofs.YtofccgkgjcnfbaaDoor
namespace Go.Proofs.YtofccgkgjcnfbaaDoor
open Go.RowKit Wr Sh
set_option linter.unusedVariables false
set_option maxRecDepth 100000
def LvR (b : Nat) (W : World) (L : List Lf) (n : Nat) (A : Option Addr) (c : Nat) : Prop :=
 n = L.length ∧ Rd W W.heap.size A (LC L) ∧ n ≤ c ∧ (A = none → c = 0) ∧ ∀ ad, A = some ad → b ≤ ad.block
theorem LvR.none (b : Nat) (W : World) : LvR b W [] 0 none 0 := ⟨rfl, fun h => absurd rfl h, Nat.le_refl _, fun _ => rfl, fun _ h => by cases h⟩
set_option maxHeartbeats 8000000 in
theorem checkRange_any (root : List UInt8) (k t : ByteArray) (p : Pf) (A1 A2 : Option Addr) (c1 c2 : Nat) (w : World) (hroot : root.length = 16) (hp : PfAt w w.heap.size p A1 A2 c1 c2) (ht : Tab 1 w) :
  Calls Tryd.prog 32 #[.agg (B8 root).toArray, .string k, .string t, .agg #[.int .i64 p.first, .int .i64 p.size, .slice A1 p.leaves.length c1, .slice A2 p.sides.length c2]] w fun e w' =>
   ∃ A n c, e = .returned (.tuple #[.slice A n c, .int .i64 (checkRangeR node lf top root k t p).2]) ∧ LvR w.heap.size w' (checkRangeR node lf top root k t p).1 n A c ∧ Below w.heap.size w w' := by
 obtain ⟨r, hr⟩ : ∃ r, r = checkRangeR node lf top root k t p := ⟨_, rfl⟩
 rw [← hr]
 have HR := Lh hr
 clear hr
 obtain ⟨W1, hW1⟩ : ∃ W, W = (w.alloc (.cells (B8 root).toArray 29)).alloc (.cells #[.int .i64 p.first, .int .i64 p.size, .slice A1 p.leaves.length c1, .slice A2 p.sides.length c2] 50) := ⟨_, rfl⟩
 have hb1 : Below w.heap.size w W1 := by rw [hW1]; exact ((Below.refl w.heap.size w).alloc (Nat.le_refl _) _).alloc (by simp) _
 have HB1 := Lh hb1
 have P1 := Lh (show Blk W1 (w.heap.size + 1) 50 (PR p.first p.size (.slice A1 p.leaves.length c1) (.slice A2 p.sides.length c2)) by rw [hW1]; exact Blk.newAt _ _ 50 (PR p.first p.size (.slice A1 p.leaves.length c1) (.slice A2 p.sides.length c2)) (by simp))
 have R1 := Lh (show Blk W1 w.heap.size 29 (B8 root) by rw [hW1]; exact (Blk.new w 29 (B8 root)).alloc _)
 have HRl := Lh hroot
 have hp1 : PfAt W1 W1.heap.size p A1 A2 c1 c2 := ⟨(hp.r1.below hb1).more hb1.size, (hp.r2.below hb1).more hb1.size, hp.k1, hp.k2, hp.okl, hp.oks, hp.oki⟩
 have HU := Lh (under_any root p A1 A2 c1 c2 W1 hroot hp1 (ht.below hb1 ht.1))
 have HW := Lh hW1
 have L1 := Lh P1.out.at
 have L0 := Lh R1.out.at
 have HP := Lh hp
 have HT := Lh ht
 obtain ⟨f, sz, L, S⟩ := p
 dsimp only at *
 have hln := hp.okl.1
 cases hs : sl t k with
 | true =>
  have HE := Lh (show r = ([], 5) by rw [HR.out]; unfold checkRangeR; rw [if_pos hs])
  have i1 : Op.bytesLess t.toList k.toList = true := by rw [lss_str]; exact hs
  have HB0 := Lh (show Below w.heap.size w ((w.alloc (.cells (B8 root).toArray 29)).alloc (.cells #[.int .i64 f, .int .i64 sz, .slice A1 L.length c1, .slice A2 S.length c2] 50)) by rw [← HW.out]; exact hb1)
  clear hs hp hp1 hb1 hW1 ht hroot HU
  go_enter Tryd.func32, Tryd.ntmps32
  go_wp2_with fail
  go_ret2
  exact ⟨none, 0, 0, by rw [HE.out]; rfl, by rw [HE.out]; exact LvR.none _ _, HB0.out⟩
 | false =>
 have i1 : Op.bytesLess t.toList k.toList = false := by rw [lss_str]; exact hs
 cases hu : underB node lf top root ⟨f, sz, L, S⟩ with
 | false =>
  have HE := Lh (show r = ([], 17) by rw [HR.out]; unfold checkRangeR; rw [if_neg (by rw [hs]; simp), if_neg (by rw [hu]; simp)])
  rw [hu] at HU
  clear hu hs hp hp1 hb1 hW1 ht hroot
  go_enter Tryd.func32, Tryd.ntmps32
  go_upto_region 1 with fail
  rw [← HW.out]
  go_wp2_with (first
   | (refine wpList_load_at rfl 29 (.tmp 4) rfl ⟨w.heap.size, 0, none⟩ rfl (B8 root) (.array 16 5) L0.out Tryd.underlying29 rfl (size29 _ HRl.out) ?_)
   | (refine wpList_load_at rfl 50 (.tmp 7) rfl ⟨w.heap.size + 1, 0, none⟩ rfl (PR f sz (.slice A1 L.length c1) (.slice A2 S.length c2)) _ L1.out Tryd.underlying50 rfl (size50L _ _ _ _) ?_)
   | (go_at_call 59; refine HU.out.mono ?_; rintro e w2 ⟨rfl, hb2⟩; have HB2 := Lh hb2; clear hb2))
  go_ret2
  exact ⟨none, 0, 0, by rw [HE.out]; rfl, by rw [HE.out]; exact LvR.none _ _, HB1.out.trans (HB2.out.mono HB1.out.size)⟩
 | true =>
  have hform : formP ⟨f, sz, L, S⟩ = true := by unfold underB at hu; exact (Bool.and_eq_true_iff.1 hu).1
  have hf0 : 0 ≤ f ∧ f ≤ 4096 ∧ ord L := by
   unfold formP at hform
   simp only [Bool.and_eq_true, decide_eq_true_eq] at hform
   obtain ⟨⟨⟨h1, h2, h3, h4⟩, _⟩, h5⟩ := hform
   exact ⟨h3, by omega, (valid_ok h5).2.2⟩
  obtain ⟨f0, f1, ho⟩ := hf0
  obtain ⟨n, hn⟩ : ∃ n, n = cb L k := ⟨_, rfl⟩
  obtain ⟨q, hq⟩ : ∃ q, q = cb L t := ⟨_, rfl⟩
  have hql : q ≤ L.length := by rw [hq]; exact cb_le L t
  have hnq : n ≤ q := by rw [hn, hq]; exact cb_mono hs
  have HC : Hid (∀ W, Below w.heap.size w W → Calls Tryd.prog 54 #[.slice A1 L.length c1, .string k] W fun e w' => e = .returned (.int .i64 (n : Int)) ∧ Below W.heap.size W w') := Lh (fun W hb => by
   rw [hn]; exact count_any A1 L c1 k W hln ho ((HP.out.r1.below hb).more hb.size))
  have HD : Hid (∀ W, Below w.heap.size w W → Calls Tryd.prog 54 #[.slice A1 L.length c1, .string t] W fun e w' => e = .returned (.int .i64 (q : Int)) ∧ Below W.heap.size W w') := Lh (fun W hb => by
   rw [hq]; exact count_any A1 L c1 t W hln ho ((HP.out.r1.below hb).more hb.size))
  obtain ⟨b, hb⟩ : ∃ b, b = bndB f sz L.length n q := ⟨_, rfl⟩
  have HBD : Hid (∀ W, Calls Tryd.prog 60 #[.agg (PR f sz (.slice A1 L.length c1) (.slice A2 S.length c2)).toArray, .int .i64 (n : Int), .int .i64 (q : Int)] W fun en w' => en = .returned (.bool b) ∧ Below W.heap.size W w') := Lh (fun W => by rw [hb]; exact bounded_any f sz A1 A2 L.length c1 S.length c2 n q W f0 (by omega) hln)
  have HE := Lh (show r = if b = true then (cut L n q, 0) else ([], 17) by
   rw [HR.out]; unfold checkRangeR; rw [if_neg (by rw [hs]; simp), if_pos hu, ← hn, ← hq, hb]; rfl)
  rw [hu] at HU
  obtain ⟨AP, hAP⟩ : ∃ AP, AP = (if c1 = n then A1 else A1.map (·.add (n * 2))) := ⟨_, rfl⟩
  have hcap := HP.out.k1.1
  have hnl := HP.out.k1.2
  dsimp only at hcap hnl
  have HSL := Lh (fun W => show (Instr.sliceAt 33 (.slice A1 L.length c1) (some (.int .i64 (n : Int))) (some (.int .i64 (q : Int))) none).run Tryd.prog W = .ok (.slice AP (q - n) (c1 - n)) W by rw [hAP]; exact slice33 A1 L.length c1 n q hnq hql hcap W)
  have HNP := Lh (show AP = none → c1 - n = 0 by
   intro h; rw [hAP] at h
   split at h
   ·
    omega
   ·
    cases A1 with
    | none => have := hnl rfl; omega
    | some ad => simp at h)
  have HCL := Lh (cut_len L n q hql)
  have HRP := Lh (show Rd w w.heap.size AP (LC (cut L n q)) by rw [hAP]; exact rd_part HP.out.r1 c1 n q hnq hql hcap)
  clear hu hs hn hq ho hform hp hp1 hb1 hW1 ht hroot hb hAP
  go_enter Tryd.func32, Tryd.ntmps32
  go_upto_region 1 with fail
  rw [← HW.out]
  go_wp2_with (first
   | (refine wpList_load_at rfl 29 (.tmp 4) rfl ⟨w.heap.size, 0, none⟩ rfl (B8 root) (.array 16 5) L0.out Tryd.underlying29 rfl (size29 _ HRl.out) ?_)
   | (refine wpList_load_at rfl 50 (.tmp 7) rfl ⟨w.heap.size + 1, 0, none⟩ rfl (PR f sz (.slice A1 L.length c1) (.slice A2 S.length c2)) _ L1.out Tryd.underlying50 rfl (size50L _ _ _ _) ?_)
   | (go_at_call 59; refine HU.out.mono ?_; rintro e w2 ⟨rfl, hb2⟩; have HB2 := Lh hb2; clear hb2))
  have P2 := Lh (P1.out.below HB2.out P1.out.lt)
  have B2 := Lh (HB1.out.trans (HB2.out.mono HB1.out.size))
  refine wp_region_held (S := fun W => W.cell? ⟨w.heap.size + 1, 2, none⟩ = some (.slice A1 L.length c1)) (by kernel_rfl) ?_
  change wpAnyH _ _ _ _ _ _ _ _ (World.drew w2)
  have BD := Lh B2.out.drew
  have PD := Lh P2.out.drew
  have hs0 : (World.drew w2).cell? ⟨w.heap.size + 1, 2, none⟩ = some (.slice A1 L.length c1) := (PD.out.cell 2).trans rfl
  generalize World.drew w2 = Wd at BD PD hs0 ⊢
  refine tkH 0 ({ dst := some 19, op := Op.fieldAddr 50 (Operand.tmp 7) 2, type := 0, pos := "merkle.go:99", after := #[], guard := none }) (.pointer (some ⟨w.heap.size + 1, 2, none⟩)) hs0 (fun W hW => ?y1) ?_
  case y1 => go_simp
  try simp only [zp, zn, z1, z2, z3]
  refine tkH 1 ({ dst := some 20, op := Op.load 33 (Operand.tmp 19), type := 33, pos := "merkle.go:99", after := #[dD 0], guard := none }) (.slice A1 L.length c1) hs0 (fun W hW => by have hcl := hW; go_simp) ?_
  try simp only [zp, zn, z1, z2, z3]
  refine tkH 2 ({ dst := some 21, op := Op.move (Operand.tmp 1), type := 9, pos := "merkle.go:99", after := #[], guard := none }) (.string k) hs0 (fun W hW => ?y3) ?_
  case y3 => go_simp
  try simp only [zp, zn, z1, z2, z3]
  refine tkH 4 ({ dst := some 23, op := Op.fieldAddr 50 (Operand.tmp 7) 2, type := 0, pos := "merkle.go:99", after := #[], guard := none }) (.pointer (some ⟨w.heap.size + 1, 2, none⟩)) hs0 (fun W hW => ?y4) ?_
  case y4 => go_simp
  try simp only [zp, zn, z1, z2, z3]
  refine tkH 5 ({ dst := some 24, op := Op.load 33 (Operand.tmp 23), type := 33, pos := "merkle.go:99", after := #[dD 4], guard := none }) (.slice A1 L.length c1) hs0 (fun W hW => by have hcl := hW; go_simp) ?_
  try simp only [zp, zn, z1, z2, z3]
  refine tkH 6 ({ dst := some 25, op := Op.move (Operand.tmp 2), type := 9, pos := "merkle.go:99", after := #[], guard := none }) (.string t) hs0 (fun W hW => ?y6) ?_
  case y6 => go_simp
  try simp only [zp, zn, z1, z2, z3]
  refine wpAnyH_ready (rs := [3]) (by kernel_rfl) (by simp) ?_
  refine AllReadyH.cons (o := { dst := some 22, op := Op.call { callee := Callee.value (Operand.func 54), args := #[Operand.tmp 20, Operand.tmp 21], argTypes := #[33, 9] }, type := 3, pos := "merkle.go:99", after := #[dD 1, dD 2], guard := none }) rfl (fun K hK => ?_) AllReadyH.nil
  rw [if_pos (by rfl)]
  go_simp
  refine (HC.out _ BD.out).mono ?_; rintro e w3 ⟨rfl, hb3⟩
  have B3 := Lh (BD.out.trans (hb3.mono BD.out.size))
  have P3 := Lh (PD.out.below hb3 PD.out.lt)
  have hs3 : w3.cell? ⟨w.heap.size + 1, 2, none⟩ = some (.slice A1 L.length c1) := (P3.out.cell 2).trans rfl
  clear hb3
  go_wp2_with fail
  refine hK.out _ _ hs3 (fun _ => ?_)
  clear hK K
  try simp only [zp, zn, z1, z2, z3]
  refine wpAnyH_ready (rs := [7]) (by kernel_rfl) (by simp) ?_
  refine AllReadyH.cons (o := { dst := some 26, op := Op.call { callee := Callee.value (Operand.func 54), args := #[Operand.tmp 24, Operand.tmp 25], argTypes := #[33, 9] }, type := 3, pos := "merkle.go:99", after := #[dD 5, dD 6, dC 3], guard := none }) rfl (fun K hK => ?_) AllReadyH.nil
  rw [if_pos (by rfl)]
  go_simp
  refine (HD.out _ B3.out).mono ?_; rintro e w4 ⟨rfl, hb4⟩
  have B4 := Lh (B3.out.trans (hb4.mono B3.out.size))
  have P4 := Lh (P3.out.below hb4 P3.out.lt)
  have hs4 : w4.cell? ⟨w.heap.size + 1, 2, none⟩ = some (.slice A1 L.length c1) := (P4.out.cell 2).trans rfl
  clear hb4
  go_wp2_with fail
  refine hK.out _ _ hs4 (fun _ => ?_)
  clear hK K
  try simp only [zp, zn, z1, z2, z3]
  refine wpAnyH_ready (rs := [8]) (by kernel_rfl) (by simp) ?_
  refine AllReadyH.cons (o := { dst := some 10, op := Op.assign (Operand.tmp 22), type := 3, pos := "merkle.go:99", after := #[dD 3, dC 7, dP 0, dP 1, dP 2, dP 3, dT 4, dT 5, dT 6, { on := 7, ground := Ground.textOnly Departure.lateStoresUnsure }], guard := none }) rfl (fun K hK => ?_) AllReadyH.nil
  rw [if_pos (by rfl)]
  go_simp
  refine hK.out _ _ hs4 (fun _ => ?_)
  clear hK K
  try simp only [zp, zn, z1, z2, z3]
  refine wpAnyH_ready (rs := [9]) (by kernel_rfl) (by simp) ?_
  refine AllReadyH.cons (o := { dst := some 11, op := Op.assign (Operand.tmp 26), type := 3, pos := "merkle.go:99", after := #[dD 7, dC 8, dP 0, dP 1, dP 2, dP 3, dP 4, dP 5, dP 6, dP 7, dP 8], guard := none }) rfl (fun K hK => ?_) AllReadyH.nil
  rw [if_pos (by rfl)]
  go_simp
  refine hK.out _ _ hs4 (fun _ => ?_)
  clear hK K
  try simp only [zp, zn, z1, z2, z3]
  refine wpAnyH_done (by kernel_rfl) ?_ _
  try simp only [zp, zn, z1, z2, z3]
  have L4 := Lh P4.out.at
  clear hs0 hs3 hs4 HU HC HD
  cases b with
  | false =>
   go_wp2_with (first
    | (refine wpList_load_at rfl 50 (.tmp 7) rfl ⟨w.heap.size + 1, 0, none⟩ rfl (PR f sz (.slice A1 L.length c1) (.slice A2 S.length c2)) _ L4.out Tryd.underlying50 rfl (size50L _ _ _ _) ?_)
    | (go_at_call 60; refine (HBD.out _).mono ?_; rintro e w5 ⟨rfl, hb5⟩; have HB5 := Lh hb5; clear hb5))
   go_ret2
   exact ⟨none, 0, 0, by rw [HE.out]; rfl, by rw [HE.out]; exact LvR.none _ _, B4.out.trans (HB5.out.mono B4.out.size)⟩
  | true =>
   go_upto_region 8 with (first
    | (refine wpList_load_at rfl 50 (.tmp 7) rfl ⟨w.heap.size + 1, 0, none⟩ rfl (PR f sz (.slice A1 L.length c1) (.slice A2 S.length c2)) _ L4.out Tryd.underlying50 rfl (size50L _ _ _ _) ?_)
    | (go_at_call 60; refine (HBD.out _).mono ?_; rintro e w5 ⟨rfl, hb5⟩; have HB5 := Lh hb5; clear hb5))
   have P5 := Lh (P4.out.below HB5.out P4.out.lt)
   have B5 := Lh (B4.out.trans (HB5.out.mono B4.out.size))
   have q5 : w5.cell? ⟨w.heap.size + 1, 2, none⟩ = some (.slice A1 L.length c1) := (P5.out.cell 2).trans rfl
   have hsl := HSL.out
   have hm1 : 0 + (q - n) ≤ 4294967296 := by omega
   go_wp2_with (at_builtin; refine wpList_append_leaves Tryd.underlying33 info41 rfl (.const (.slice none 0 0)) (.tmp 36) rfl w5.heap.size (.slice none 0 0) 0 [] rfl (World.ownsRow_nil _ _ _ _) AP (q - n) (c1 - n) w.heap.size (cut L n q) rfl HNP.out HCL.out (HRP.out.below B5.out) hm1 (Nat.le_refl _) ?_; intro v6 w6 ho6 hg6; obtain ⟨A6, c6, hv6, hc6, hn6, hr6⟩ := own_form ho6; subst hv6; have HO6 := Lh ho6; have HG6 := Lh hg6; have H6 := Lh (And.intro hc6 (And.intro hn6 hr6)); clear ho6 hg6 hc6 hn6 hr6)
   go_ret2
   have hb6 : Below w5.heap.size w5 w6 := ⟨HG6.out.os, HG6.out.tape, HG6.out.output, HG6.out.size, fun k hk => HG6.out.block k hk (by simp [Value.ownBlock])⟩
   obtain ⟨hc6, hn6, hr6⟩ := H6.out
   refine ⟨A6, q - n, c6, by rw [HE.out]; rfl, ?_, B5.out.trans (hb6.mono B5.out.size)⟩
   rw [HE.out]
   refine ⟨HCL.out.symm, by simpa using hr6, by omega, hn6, fun ad e => ?_⟩
   subst e
   have := (HO6.out.lt ad.block rfl).1
   have := B5.out.size
   omega
end Go.Proofs.YtofccgkgjcnfbaaDoor
