/-
  The contract of the writer's put.
  No condition but the lengths.
-/
import Derived.Test.YtpbhgebblpdmnaaDoorZ
import Derived.Test.YtpbhgebblpdmnaaDoorWp
namespace Go.Proofs.YtpbhgebblpdmnaaDoor
open Go.RowKit Wr Src
set_option linter.unusedVariables false
set_option maxRecDepth 100000
theorem last_byte (y : Str) (hn : y ≠ []) : ∃ b, y.getLast? = some b ∧ (B8 y)[y.length - 1]? = some (.int .u8 (b.toNat : Int)) := by
 obtain ⟨b, hb⟩ : ∃ b, y.getLast? = some b := by cases h : y.getLast? with | none => rw [List.getLast?_eq_none_iff] at h; exact absurd h hn | some b => exact ⟨b, rfl⟩
 refine ⟨b, hb, ?_⟩
 rw [List.getLast?_eq_getElem?] at hb
 unfold B8
 rw [List.getElem?_map, hb]
 rfl
theorem blk_no0 (t : Str) : blk' [] t = [] := by unfold blk'; rw [if_neg (fun h => h.1 rfl)]
theorem blk_no1 {x t : Str} (h : x.getLast? = some 40) : blk' x t = x := by unfold blk'; rw [if_neg (fun e => e.2.1 h)]
theorem blk_no2 (x : Str) : blk' x [41] = x := by unfold blk'; rw [if_neg (fun e => e.2.2.1 rfl)]
theorem blk_no3 (x : Str) : blk' x [59] = x := by unfold blk'; rw [if_neg (fun e => e.2.2.2 rfl)]
theorem blk_yes {x t : Str} (h0 : x ≠ []) (h1 : x.getLast? ≠ some 40) (h2 : t ≠ [41]) (h3 : t ≠ [59]) : blk' x t = x ++ [32] := by unfold blk'; rw [if_pos ⟨h0, h1, h2, h3⟩]
section
variable {h dp : Nat} {w : World} {v : Value} {x : Src.Wr}
set_option maxHeartbeats 4000000 in
theorem put_any (hs : WS h w v x dp) (hl : Lim 1000 x) (t : Str) (ht : t.length ≤ 9000000000) : Calls Tryd.prog 54 #[pt h, sv t] w fun en w' => en = .returned (.tuple #[]) ∧ WOut h w v (x.put t) dp w' := by
 have HL := Lh hl
 have hx1 := hl.2
 obtain ⟨ib, hib, hz0, hz1, hz2⟩ := infoB
 have HI := Lh (And.intro hib (And.intro hz0 (And.intro hz1 hz2)))
 obtain ⟨A, c, rfl, hA, hc⟩ := own_form hs.o
 obtain ⟨n, hn⟩ : ∃ n, x.text.length = n := ⟨_, rfl⟩
 obtain ⟨m, hm⟩ : ∃ n, t.length = n := ⟨_, rfl⟩
 have HO := hs.o
 rw [hn] at hs hc hA hx1 HO ⊢
 rw [hm] at ht
 have HO := Lh HO
 have HS := Lh hs
 have HN := Lh hn
 have HM := Lh hm
 have htz : (⟨t.toArray⟩ : ByteArray).size = m := hm
 have hnI : (n : Int) ≤ 2024 := by omega
 have hmI : (m : Int) ≤ 9000000000 := by omega
 have q0 : IntKind.i64.wrap ((n : Int) - 1) = (n : Int) - 1 := IntWalk.i64_in _ (by omega)
 have hst1 : (t == [41]) = decide (t = [41]) := by rw [Bool.eq_iff_iff, beq_iff_eq, decide_eq_true_iff]
 have hst2 : (t == [59]) = decide (t = [59]) := by rw [Bool.eq_iff_iff, beq_iff_eq, decide_eq_true_iff]
 have c0 := hs.b.cell 0; have f0 := hs.b.frozen 0
 simp only [g0, gs] at c0
 clear hs hl hn hm hib hz0 hz1 hz2
 by_cases h0 : n = 0
 ·
  have hlI : ¬ (0 : Int) ≤ (n : Int) - 1 := by omega
  obtain ⟨y, hy⟩ : ∃ y, y = blk' x.text t := ⟨_, rfl⟩
  have HY := Lh hy
  have HYx := Lh (show y = x.text from hy.trans (by rw [List.eq_nil_of_length_eq_zero (HN.out.trans h0)]; exact blk_no0 t))
  clear hy
  have HSY := Lh (show WS h w (.slice A n c) ⟨y, x.bad⟩ dp from by rw [HYx.out]; exact HS.out)
  have HKY := Lh (WK.refl h w (.slice A n c))
  clear HYx h0
  go_enter Tryd.func54, Tryd.ntmps54
  go_upto_region 3 with fail
  clear c0 f0
  obtain ⟨ny, hny⟩ : ∃ k, k = y.length := ⟨_, rfl⟩
  obtain ⟨A2, c2, hV, _, _⟩ := own_form HSY.out.o
  have HY2 := HY.out
  dsimp only at hV
  rw [← hny] at hV
  obtain ⟨HOY, HSB⟩ := (And.intro (Lh HSY.out.o) (Lh HSY.out.b))
  dsimp only at HOY HSB
  rw [← hny] at HOY
  have HNY := Lh hny
  have hny2 : ny ≤ 2025 := by have h1 := blk_len x.text t; have h2 := HN.out; rw [← HY.out, ← hny] at h1; omega
  clear HY2 hny
  injection hV with e1 e2 e3
  subst e1 e3
  have e2 := e2.symm
  subst e2
  have hnyI : (ny : Int) ≤ 2025 := by omega
  have q1 : IntKind.i64.wrap (1024 - (ny : Int)) = 1024 - (ny : Int) := IntWalk.i64_in _ (by omega)
  have c0 := HSB.out.cell 0; have f0 := HSB.out.frozen 0; have c2' := HSB.out.cell 2; have f2 := HSB.out.frozen 2
  simp only [g0, gs] at c0 c2'
  by_cases hgt : 1024 < ny + m
  ·
   have hgI : (1024 : Int) - (ny : Int) < (m : Int) := by omega
   have HE := Lh (show x.put t = ⟨y, true⟩ by rw [put_eq, ← HY.out, if_pos (by rw [← HNY.out, HM.out]; exact hgt)])
   clear hgt
   go_wp2_with fail
   refine bodyPost_ret (v := .tuple #[]) (res_none rfl _ _) rfl ⟨rfl, _, ?_, HKY.out.set 2 (.bool true)⟩
   rw [HE.out]
   exact HSY.out.setBad true
  ·
   have hgI : ¬ (1024 : Int) - (ny : Int) < (m : Int) := by omega
   have HE := Lh (show x.put t = ⟨y ++ t, x.bad⟩ by rw [put_eq, ← HY.out, if_neg (by rw [← HNY.out, HM.out]; exact hgt)])
   have hm2 : ny + m ≤ 1024 := by omega
   clear hgt
   go_wp2_with (at_builtin; refine wpList_append_str_lies _ rfl (.tmp 56) (.tmp 57) 56 9 rfl (h + 1) 5 ib Tryd.underlying56 Tryd.underlying9 HI.out.1 HI.out.2.1 HI.out.2.2.1 HI.out.2.2.2 _ ny (B8 y) rfl HOY.out ⟨t.toArray⟩ rfl (by rw [htz]; unfold maxLen; omega) (by rw [htz]; omega) HSB.out.lt ?_; intro v3 w3 o3 g3 l3; rw [htz, B8_str] at o3; obtain ⟨A3, c3, hv3, _, _⟩ := own_form o3; subst hv3; have H3 := Lh (And.intro o3 (And.intro g3 l3)); have hb3 := HSB.out.grown g3 (fun e => by have := (HOY.out.lt _ e.symm).1; omega); have d0 := hb3.cell 0; have e0 := hb3.frozen 0; simp only [g0, gs] at d0; clear c0 f0 c2' f2 o3 g3 l3)
   have ha := WS.app (t := t) HSY.out (by have h1 := H3.out.1; dsimp only; rw [← HNY.out, HM.out]; exact h1) H3.out.2.1 H3.out.2.2
   refine bodyPost_end (v := .tuple #[]) (res_none rfl _ _) rfl ⟨rfl, _, ?_, HKY.out.trans ha.2⟩
   rw [HE.out]
   exact ha.1
 ·
  have hne : x.text ≠ [] := by intro e; have := HN.out; rw [e] at this; exact h0 this.symm
  obtain ⟨b, hb1, hb2⟩ := last_byte x.text hne
  have hlI : (0 : Int) ≤ (n : Int) - 1 := by omega
  obtain ⟨g, rfl⟩ : ∃ g, A = some ⟨g, 0, none⟩ := by
   obtain ⟨g, cap, hv, _⟩ := HO.out.form (by omega)
   injection hv with hv _ _
   exact ⟨g, hv⟩
  have cb : w.cell? ⟨g, n - 1, none⟩ = some (.int .u8 (b.toNat : Int)) := by
   have h1 := HO.out.cells (g := g) rfl (n - 1) _ (by rw [HN.out] at hb2; exact hb2)
   rwa [Addr.add_lit, Nat.zero_add] at h1
  clear hb2
  by_cases h40 : b = 40
  ·
   have hbI : ((b.toNat : Int) == 40) = true := by rw [h40]; rfl
   have hbJ : ((b.toNat : Int) != 40) = false := by rw [bne, hbI]; rfl
   obtain ⟨y, hy⟩ : ∃ y, y = blk' x.text t := ⟨_, rfl⟩
   have HY := Lh hy
   have HYx := Lh (show y = x.text from hy.trans (blk_no1 (by rw [hb1, h40])))
   clear hy
   have HSY := Lh (show WS h w (.slice (some ⟨g, 0, none⟩) n c) ⟨y, x.bad⟩ dp from by rw [HYx.out]; exact HS.out)
   have HKY := Lh (WK.refl h w (.slice (some ⟨g, 0, none⟩) n c))
   clear HYx h40 hb1
   go_enter Tryd.func54, Tryd.ntmps54
   go_upto_region 3 with fail
   clear c0 f0
   obtain ⟨ny, hny⟩ : ∃ k, k = y.length := ⟨_, rfl⟩
   obtain ⟨A2, c2, hV, _, _⟩ := own_form HSY.out.o
   have HY2 := HY.out
   dsimp only at hV
   rw [← hny] at hV
   obtain ⟨HOY, HSB⟩ := (And.intro (Lh HSY.out.o) (Lh HSY.out.b))
   dsimp only at HOY HSB
   rw [← hny] at HOY
   have HNY := Lh hny
   have hny2 : ny ≤ 2025 := by have h1 := blk_len x.text t; have h2 := HN.out; rw [← HY.out, ← hny] at h1; omega
   clear HY2 hny
   injection hV with e1 e2 e3
   subst e1 e3
   have e2 := e2.symm
   subst e2
   have hnyI : (ny : Int) ≤ 2025 := by omega
   have q1 : IntKind.i64.wrap (1024 - (ny : Int)) = 1024 - (ny : Int) := IntWalk.i64_in _ (by omega)
   have c0 := HSB.out.cell 0; have f0 := HSB.out.frozen 0; have c2' := HSB.out.cell 2; have f2 := HSB.out.frozen 2
   simp only [g0, gs] at c0 c2'
   by_cases hgt : 1024 < ny + m
   ·
    have hgI : (1024 : Int) - (ny : Int) < (m : Int) := by omega
    have HE := Lh (show x.put t = ⟨y, true⟩ by rw [put_eq, ← HY.out, if_pos (by rw [← HNY.out, HM.out]; exact hgt)])
    clear hgt
    go_wp2_with fail
    refine bodyPost_ret (v := .tuple #[]) (res_none rfl _ _) rfl ⟨rfl, _, ?_, HKY.out.set 2 (.bool true)⟩
    rw [HE.out]
    exact HSY.out.setBad true
   ·
    have hgI : ¬ (1024 : Int) - (ny : Int) < (m : Int) := by omega
    have HE := Lh (show x.put t = ⟨y ++ t, x.bad⟩ by rw [put_eq, ← HY.out, if_neg (by rw [← HNY.out, HM.out]; exact hgt)])
    have hm2 : ny + m ≤ 1024 := by omega
    clear hgt
    go_wp2_with (at_builtin; refine wpList_append_str_lies _ rfl (.tmp 56) (.tmp 57) 56 9 rfl (h + 1) 5 ib Tryd.underlying56 Tryd.underlying9 HI.out.1 HI.out.2.1 HI.out.2.2.1 HI.out.2.2.2 _ ny (B8 y) rfl HOY.out ⟨t.toArray⟩ rfl (by rw [htz]; unfold maxLen; omega) (by rw [htz]; omega) HSB.out.lt ?_; intro v3 w3 o3 g3 l3; rw [htz, B8_str] at o3; obtain ⟨A3, c3, hv3, _, _⟩ := own_form o3; subst hv3; have H3 := Lh (And.intro o3 (And.intro g3 l3)); have hb3 := HSB.out.grown g3 (fun e => by have := (HOY.out.lt _ e.symm).1; omega); have d0 := hb3.cell 0; have e0 := hb3.frozen 0; simp only [g0, gs] at d0; clear c0 f0 c2' f2 o3 g3 l3)
    have ha := WS.app (t := t) HSY.out (by have h1 := H3.out.1; dsimp only; rw [← HNY.out, HM.out]; exact h1) H3.out.2.1 H3.out.2.2
    refine bodyPost_end (v := .tuple #[]) (res_none rfl _ _) rfl ⟨rfl, _, ?_, HKY.out.trans ha.2⟩
    rw [HE.out]
    exact ha.1
  ·
   have hbI : ((b.toNat : Int) == 40) = false := by
    rw [beq_eq_false_iff_ne]
    intro e
    exact h40 (UInt8.toNat_inj.1 (by show b.toNat = 40; omega))
   by_cases h41 : t = [41]
   ·
    have hbJ : ((b.toNat : Int) != 40) = true := by rw [bne, hbI]; rfl
    subst h41
    obtain rfl : 1 = m := HM.out
    clear hst1 hst2
    obtain ⟨y, hy⟩ : ∃ y, y = blk' x.text [41] := ⟨_, rfl⟩
    have HY := Lh hy
    have HYx := Lh (show y = x.text from hy.trans (blk_no2 _))
    clear hy
    have HSY := Lh (show WS h w (.slice (some ⟨g, 0, none⟩) n c) ⟨y, x.bad⟩ dp from by rw [HYx.out]; exact HS.out)
    have HKY := Lh (WK.refl h w (.slice (some ⟨g, 0, none⟩) n c))
    clear HYx h40 hb1
    go_enter Tryd.func54, Tryd.ntmps54
    go_upto_region 3 with fail
    clear c0 f0
    obtain ⟨ny, hny⟩ : ∃ k, k = y.length := ⟨_, rfl⟩
    obtain ⟨A2, c2, hV, _, _⟩ := own_form HSY.out.o
    have HY2 := HY.out
    dsimp only at hV
    rw [← hny] at hV
    obtain ⟨HOY, HSB⟩ := (And.intro (Lh HSY.out.o) (Lh HSY.out.b))
    dsimp only at HOY HSB
    rw [← hny] at HOY
    have HNY := Lh hny
    have hny2 : ny ≤ 2025 := by have h1 := blk_len x.text [41]; have h2 := HN.out; rw [← HY.out, ← hny] at h1; omega
    clear HY2 hny
    injection hV with e1 e2 e3
    subst e1 e3
    have e2 := e2.symm
    subst e2
    have hnyI : (ny : Int) ≤ 2025 := by omega
    have q1 : IntKind.i64.wrap (1024 - (ny : Int)) = 1024 - (ny : Int) := IntWalk.i64_in _ (by omega)
    have c0 := HSB.out.cell 0; have f0 := HSB.out.frozen 0; have c2' := HSB.out.cell 2; have f2 := HSB.out.frozen 2
    simp only [g0, gs] at c0 c2'
    by_cases hgt : 1024 < ny + 1
    ·
     have hgI : (1024 : Int) - (ny : Int) < 1 := by omega
     have HE := Lh (show x.put [41] = ⟨y, true⟩ by rw [put_eq, ← HY.out, if_pos (by rw [← HNY.out, HM.out]; exact hgt)])
     clear hgt
     go_wp2_with fail
     refine bodyPost_ret (v := .tuple #[]) (res_none rfl _ _) rfl ⟨rfl, _, ?_, HKY.out.set 2 (.bool true)⟩
     rw [HE.out]
     exact HSY.out.setBad true
    ·
     have hgI : ¬ (1024 : Int) - (ny : Int) < 1 := by omega
     have HE := Lh (show x.put [41] = ⟨y ++ [41], x.bad⟩ by rw [put_eq, ← HY.out, if_neg (by rw [← HNY.out, HM.out]; exact hgt)])
     have hm2 : ny + 1 ≤ 1024 := by omega
     clear hgt
     go_wp2_with (at_builtin; refine wpList_append_str_lies _ rfl (.tmp 56) (.tmp 57) 56 9 rfl (h + 1) 5 ib Tryd.underlying56 Tryd.underlying9 HI.out.1 HI.out.2.1 HI.out.2.2.1 HI.out.2.2.2 _ ny (B8 y) rfl HOY.out ⟨Array.mk [41]⟩ rfl (by rw [htz]; unfold maxLen; omega) (by rw [htz]; omega) HSB.out.lt ?_; intro v3 w3 o3 g3 l3; rw [htz, B8_str] at o3; obtain ⟨A3, c3, hv3, _, _⟩ := own_form o3; subst hv3; have H3 := Lh (And.intro o3 (And.intro g3 l3)); have hb3 := HSB.out.grown g3 (fun e => by have := (HOY.out.lt _ e.symm).1; omega); have d0 := hb3.cell 0; have e0 := hb3.frozen 0; simp only [g0, gs] at d0; clear c0 f0 c2' f2 o3 g3 l3)
     have ha := WS.app (t := [41]) HSY.out (by have h1 := H3.out.1; dsimp only; rw [← HNY.out, HM.out]; exact h1) H3.out.2.1 H3.out.2.2
     refine bodyPost_end (v := .tuple #[]) (res_none rfl _ _) rfl ⟨rfl, _, ?_, HKY.out.trans ha.2⟩
     rw [HE.out]
     exact ha.1
   ·
    by_cases h59 : t = [59]
    ·
     have hbJ : ((b.toNat : Int) != 40) = true := by rw [bne, hbI]; rfl
     subst h59
     obtain rfl : 1 = m := HM.out
     clear hst1 hst2
     obtain ⟨y, hy⟩ : ∃ y, y = blk' x.text [59] := ⟨_, rfl⟩
     have HY := Lh hy
     have HYx := Lh (show y = x.text from hy.trans (blk_no3 _))
     clear hy
     have HSY := Lh (show WS h w (.slice (some ⟨g, 0, none⟩) n c) ⟨y, x.bad⟩ dp from by rw [HYx.out]; exact HS.out)
     have HKY := Lh (WK.refl h w (.slice (some ⟨g, 0, none⟩) n c))
     clear HYx h41 h40 hb1
     go_enter Tryd.func54, Tryd.ntmps54
     go_upto_region 3 with fail
     clear c0 f0
     obtain ⟨ny, hny⟩ : ∃ k, k = y.length := ⟨_, rfl⟩
     obtain ⟨A2, c2, hV, _, _⟩ := own_form HSY.out.o
     have HY2 := HY.out
     dsimp only at hV
     rw [← hny] at hV
     obtain ⟨HOY, HSB⟩ := (And.intro (Lh HSY.out.o) (Lh HSY.out.b))
     dsimp only at HOY HSB
     rw [← hny] at HOY
     have HNY := Lh hny
     have hny2 : ny ≤ 2025 := by have h1 := blk_len x.text [59]; have h2 := HN.out; rw [← HY.out, ← hny] at h1; omega
     clear HY2 hny
     injection hV with e1 e2 e3
     subst e1 e3
     have e2 := e2.symm
     subst e2
     have hnyI : (ny : Int) ≤ 2025 := by omega
     have q1 : IntKind.i64.wrap (1024 - (ny : Int)) = 1024 - (ny : Int) := IntWalk.i64_in _ (by omega)
     have c0 := HSB.out.cell 0; have f0 := HSB.out.frozen 0; have c2' := HSB.out.cell 2; have f2 := HSB.out.frozen 2
     simp only [g0, gs] at c0 c2'
     by_cases hgt : 1024 < ny + 1
     ·
      have hgI : (1024 : Int) - (ny : Int) < 1 := by omega
      have HE := Lh (show x.put [59] = ⟨y, true⟩ by rw [put_eq, ← HY.out, if_pos (by rw [← HNY.out, HM.out]; exact hgt)])
      clear hgt
      go_wp2_with fail
      refine bodyPost_ret (v := .tuple #[]) (res_none rfl _ _) rfl ⟨rfl, _, ?_, HKY.out.set 2 (.bool true)⟩
      rw [HE.out]
      exact HSY.out.setBad true
     ·
      have hgI : ¬ (1024 : Int) - (ny : Int) < 1 := by omega
      have HE := Lh (show x.put [59] = ⟨y ++ [59], x.bad⟩ by rw [put_eq, ← HY.out, if_neg (by rw [← HNY.out, HM.out]; exact hgt)])
      have hm2 : ny + 1 ≤ 1024 := by omega
      clear hgt
      go_wp2_with (at_builtin; refine wpList_append_str_lies _ rfl (.tmp 56) (.tmp 57) 56 9 rfl (h + 1) 5 ib Tryd.underlying56 Tryd.underlying9 HI.out.1 HI.out.2.1 HI.out.2.2.1 HI.out.2.2.2 _ ny (B8 y) rfl HOY.out ⟨Array.mk [59]⟩ rfl (by rw [htz]; unfold maxLen; omega) (by rw [htz]; omega) HSB.out.lt ?_; intro v3 w3 o3 g3 l3; rw [htz, B8_str] at o3; obtain ⟨A3, c3, hv3, _, _⟩ := own_form o3; subst hv3; have H3 := Lh (And.intro o3 (And.intro g3 l3)); have hb3 := HSB.out.grown g3 (fun e => by have := (HOY.out.lt _ e.symm).1; omega); have d0 := hb3.cell 0; have e0 := hb3.frozen 0; simp only [g0, gs] at d0; clear c0 f0 c2' f2 o3 g3 l3)
      have ha := WS.app (t := [59]) HSY.out (by have h1 := H3.out.1; dsimp only; rw [← HNY.out, HM.out]; exact h1) H3.out.2.1 H3.out.2.2
      refine bodyPost_end (v := .tuple #[]) (res_none rfl _ _) rfl ⟨rfl, _, ?_, HKY.out.trans ha.2⟩
      rw [HE.out]
      exact ha.1
    ·
     obtain ⟨y, hy⟩ : ∃ y, y = blk' x.text t := ⟨_, rfl⟩
     have HY := Lh hy
     have HYx := Lh (show y = x.text ++ [32] from hy.trans (blk_yes hne (by rw [hb1]; intro e; injection e with e; exact h40 e) h41 h59))
     clear hy
     rw [decide_eq_false h41] at hst1
     rw [decide_eq_false h59] at hst2
     have hst3 : (t != [41]) = true := by rw [bne, hst1]; rfl
     have hst4 : (t != [59]) = true := by rw [bne, hst2]; rfl
     have hbJ : ((b.toNat : Int) != 40) = true := by rw [bne, hbI]; rfl
     obtain ⟨wa, hwa⟩ : ∃ wa, wa = w.alloc (.cells #[.int .u8 32] 5) := ⟨_, rfl⟩
     have la : Below w.heap.size w wa := by rw [hwa]; exact (Below.refl _ _).alloc (Nat.le_refl _) _
     have SA := Lh (HS.out.below la)
     have OA := Lh (own_below HO.out la)
     have LA := Lh la
     have NW := Lh (show ∀ j u, ([.int .u8 32] : List Value)[j]? = some u → wa.cell? ((⟨w.heap.size, 0, none⟩ : Addr).add j) = some u by rw [hwa]; exact (Blk.new w 5 [.int .u8 32]).at)
     have WA := Lh hwa
     have bs56 : ∀ W : World, (Instr.buildSlice 56 1 #[(0, .int .u8 32)]).run Tryd.prog W = .ok (.slice (some ⟨W.heap.size, 0, none⟩) 1 1) (W.alloc (.cells #[.int .u8 32] 5)) := fun _ => by kernel_rfl
     have c0a := SA.out.b.cell 0; have f0a := SA.out.b.frozen 0
     simp only [g0, gs] at c0a
     rw [hwa] at c0a f0a
     clear hwa la h41 h59 h40 hb1 hne
     go_enter Tryd.func54, Tryd.ntmps54
     go_upto_region 3 with (at_builtin; (rw [← WA.out]; refine wpList_append_lies _ rfl (.tmp 35) (.tmp 36) 56 rfl (h + 1) 5 ib (.int .u8 0) 1 1 Tryd.underlying56 HI.out.1 HI.out.2.1 HI.out.2.2.1 HI.out.2.2.2 rfl (by decide) _ n (B8 x.text) rfl OA.out ⟨w.heap.size, 0, none⟩ 1 1 [.int .u8 32] rfl rfl NW.out (by simp [Value.oneCell']) (by decide) (by unfold maxLen; omega) (by omega) SA.out.b.lt _ rfl ?_; intro g1 cap w1 o1 gr1 l1 lt1; have H1 := Lh (And.intro o1 (And.intro gr1 l1)); have hb1 := SA.out.b.grown gr1 (fun e => by have := (OA.out.lt _ e.symm).1; omega); have d0 := hb1.cell 0; have e0 := hb1.frozen 0; simp only [g0, gs] at d0; clear c0 f0 c0a f0a o1 gr1 l1 hb1))
     have ha := WS.app (t := [32]) SA.out (by rw [HN.out]; exact H1.out.1) H1.out.2.1 (fun k e => by
      simp only [Value.ownBlock, Option.some.injEq] at e
      subst e
      exact H1.out.2.2.imp Eq.symm (fun e => by rw [e]; exact Nat.le_refl _))
     obtain ⟨W, hW⟩ : ∃ W, W = w1.setCell ⟨h, 0, none⟩ (.slice (some ⟨g1, 0, none⟩) (n + 1) cap) := ⟨_, rfl⟩
     rw [← hW] at ha ⊢
     have HSY := Lh (show WS h W (.slice (some ⟨g1, 0, none⟩) (n + 1) cap) ⟨y, x.bad⟩ dp by rw [HYx.out]; exact ha.1)
     have HKY := Lh ((WK.below (h := h) LA.out).trans ha.2)
     obtain ⟨V, hVV⟩ : ∃ V, V = Value.slice (some ⟨g1, 0, none⟩) (n + 1) cap := ⟨_, rfl⟩
     rw [← hVV] at HSY HKY
     clear hW ha hVV d0 e0 H1 SA OA NW WA
     have c0 : True := trivial
     have f0 : True := trivial
     clear c0 f0
     obtain ⟨ny, hny⟩ : ∃ k, k = y.length := ⟨_, rfl⟩
     obtain ⟨A2, c2, hV, _, _⟩ := own_form HSY.out.o
     have HY2 := HY.out
     dsimp only at hV
     rw [← hny] at hV
     obtain ⟨HOY, HSB⟩ := (And.intro (Lh HSY.out.o) (Lh HSY.out.b))
     dsimp only at HOY HSB
     rw [← hny] at HOY
     have HNY := Lh hny
     have hny2 : ny ≤ 2025 := by have h1 := blk_len x.text t; have h2 := HN.out; rw [← HY.out, ← hny] at h1; omega
     clear HY2 hny
     subst hV
     have hnyI : (ny : Int) ≤ 2025 := by omega
     have q1 : IntKind.i64.wrap (1024 - (ny : Int)) = 1024 - (ny : Int) := IntWalk.i64_in _ (by omega)
     have c0 := HSB.out.cell 0; have f0 := HSB.out.frozen 0; have c2' := HSB.out.cell 2; have f2 := HSB.out.frozen 2
     simp only [g0, gs] at c0 c2'
     by_cases hgt : 1024 < ny + m
     ·
      have hgI : (1024 : Int) - (ny : Int) < (m : Int) := by omega
      have HE := Lh (show x.put t = ⟨y, true⟩ by rw [put_eq, ← HY.out, if_pos (by rw [← HNY.out, HM.out]; exact hgt)])
      clear hgt
      go_wp2_with fail
      refine bodyPost_ret (v := .tuple #[]) (res_none rfl _ _) rfl ⟨rfl, _, ?_, HKY.out.set 2 (.bool true)⟩
      rw [HE.out]
      exact HSY.out.setBad true
     ·
      have hgI : ¬ (1024 : Int) - (ny : Int) < (m : Int) := by omega
      have HE := Lh (show x.put t = ⟨y ++ t, x.bad⟩ by rw [put_eq, ← HY.out, if_neg (by rw [← HNY.out, HM.out]; exact hgt)])
      have hm2 : ny + m ≤ 1024 := by omega
      clear hgt
      go_wp2_with (at_builtin; refine wpList_append_str_lies _ rfl (.tmp 56) (.tmp 57) 56 9 rfl (h + 1) 5 ib Tryd.underlying56 Tryd.underlying9 HI.out.1 HI.out.2.1 HI.out.2.2.1 HI.out.2.2.2 _ ny (B8 y) rfl HOY.out ⟨t.toArray⟩ rfl (by rw [htz]; unfold maxLen; omega) (by rw [htz]; omega) HSB.out.lt ?_; intro v3 w3 o3 g3 l3; rw [htz, B8_str] at o3; obtain ⟨A3, c3, hv3, _, _⟩ := own_form o3; subst hv3; have H3 := Lh (And.intro o3 (And.intro g3 l3)); have hb3 := HSB.out.grown g3 (fun e => by have := (HOY.out.lt _ e.symm).1; omega); have d0 := hb3.cell 0; have e0 := hb3.frozen 0; simp only [g0, gs] at d0; clear c0 f0 c2' f2 o3 g3 l3)
      have ha := WS.app (t := t) HSY.out (by have h1 := H3.out.1; dsimp only; rw [← HNY.out, HM.out]; exact h1) H3.out.2.1 H3.out.2.2
      refine bodyPost_end (v := .tuple #[]) (res_none rfl _ _) rfl ⟨rfl, _, ?_, HKY.out.trans ha.2⟩
      rw [HE.out]
      exact ha.1
end
end Go.Proofs.YtpbhgebblpdmnaaDoor
