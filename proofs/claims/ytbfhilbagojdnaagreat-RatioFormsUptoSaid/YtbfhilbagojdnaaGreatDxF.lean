/-
  Decode, on both sides.
  No condition but the lengths.
-/
import Derived.Test.YtbfhilbagojdnaaGreatEnF
import Derived.Test.YtbfhilbagojdnaaGreatVbF
namespace Go.Proofs.YtbfhilbagojdnaaGreat
open Go.RowKit Wr Go.Proofs.YtbfhilbagojdnaaGreat.Nm
open Go.Proofs.YtbfhilbagojdnaaGreat.W1.Wr (okInt decInts encInts enc decInt decLen decList decGo)
open Go.Proofs.YtbfhilbagojdnaaGreat.W1 (I64 I64_get I64_len I64_one encInts_le)
set_option linter.unusedVariables false
set_option maxRecDepth 100000

/-- A slice that reads as a list of bytes. -/
def Bw (w : World) (v : Value) (b : List UInt8) : Prop := ∃ (A : Option Addr) (c : Nat), v = .slice A b.length c ∧ b.length ≤ c ∧ (A = none → c = 0) ∧ Rd w w.heap.size A (B8 b)
theorem Bw.below {w w' : World} {v : Value} {b : List UInt8} (h : Bw w v b) (hb : Below w.heap.size w w') : Bw w' v b := by
  obtain ⟨A, c, e, hc, hn, hr⟩ := h
  exact ⟨A, c, e, hc, hn, (hr.below hb).more hb.size⟩
theorem own_bw {w : World} {base : Nat} {v : Value} {b : List UInt8} (h : w.ownsRow base 5 1 v b.length (B8 b)) : Bw w v b := own_form h
theorem Bw.drop {w : World} {A : Option Addr} {c k : Nat} {b : List UInt8} (h : Bw w (.slice A b.length c) b) (hk : k ≤ b.length) : Bw w (.slice (if c = k then A else A.map (·.add k)) (b.drop k).length (c - k)) (b.drop k) := by
  obtain ⟨A', c', e, hc, hn, hr⟩ := h
  injection e with e1 e2 e3
  subst e1 e3
  refine ⟨_, _, rfl, by rw [List.length_drop]; omega, ?_, ?_⟩
  · intro hA
    split at hA
    · omega
    · cases A with
      | none => have := hn rfl; omega
      | some a => simp at hA
  · rw [W1.B8_drop]
    exact hr.cut k c (by rw [B8_len]; exact hk) (by rw [B8_len]; exact hc)
theorem go_bad (b : List UInt8) : ∀ (k a : Nat) (acc : List Int), (decGo decInt b k a acc).2.2 ≠ 0 → (decGo decInt b k a acc).1 = [] ∧ (decGo decInt b k a acc).2.1 = 0
  | 0, a, acc, h => by simp [decGo] at h
  | k + 1, a, acc, h => by
    rw [decGo] at h ⊢
    split
    · exact ⟨rfl, rfl⟩
    · next h0 => rw [if_neg h0] at h; exact go_bad b k _ _ h
theorem di_facts (b : List UInt8) : (decInts b).2.1 ≤ b.length ∧ (decInts b).1.length ≤ b.length ∧ ∀ x ∈ (decInts b).1, -9223372036854775808 ≤ x ∧ x ≤ 9223372036854775807 := by
  by_cases h0 : (decInts b).2.2 = 0
  · obtain ⟨h1, h2, h3, h4⟩ := W1.Wr.list_back W1.Wr.codecInt b (decInts b).1 (decInts b).2.1 (Prod.ext rfl (Prod.ext rfl h0))
    refine ⟨h1, ?_, h4⟩
    have h5 := W1.Wr.flat_long W1.Wr.codecInt (decInts b).1 h4
    unfold W1.Wr.encList at h3
    rw [List.length_append] at h3
    omega
  · have hb : (decInts b).1 = [] ∧ (decInts b).2.1 = 0 := by
      unfold W1.Wr.decInts decList at h0 ⊢
      split
      · exact ⟨rfl, rfl⟩
      · next h1 => rw [if_neg h1] at h0; exact go_bad b _ _ _ h0
    rw [hb.1, hb.2]
    exact ⟨Nat.zero_le _, Nat.zero_le _, fun x hx => absurd hx (by simp)⟩
def GiP (w : World) (d : List Int × Nat × Nat) (e : Ending) (w' : World) : Prop := ∃ v, e = .returned (.tuple #[v, .int .i64 ((d.2.1 : Nat) : Int), .int .i64 ((d.2.2 : Nat) : Int)]) ∧ Iv w' v d.1 ∧ Below w.heap.size w w'
theorem gi_any {v : Value} {b : List UInt8} {w : World} (h : Bw w v b) (hl : b.length ≤ 2097152) : Calls Tryz.prog 84 #[v] w (GiP w (decInts b)) := by
  obtain ⟨A, c, rfl, hc, hn, hr⟩ := h
  exact (W1.getInts_any A b c w hr hc (by omega)).mono fun e w' ⟨v', e', ho, hb⟩ => ⟨v', e', own_iv ho, hb⟩
theorem fn_iv {v : Value} {l : List Int} {w : World} (h : Iv w v l) (hl : l.length ≤ 1048576) (hb : ∀ x ∈ l, -9223372036854775808 ≤ x ∧ x ≤ 9223372036854775807) : Calls Tryz.prog 85 #[v] w (FnP w l) := by
  obtain ⟨A, c, rfl, hc, hn, hr⟩ := h
  exact fromNums_any hr hl hb
theorem toL_okl (l : List Int) : Ok (toL l) ∧ (toL l).length ≤ l.length := by
  unfold toL
  split
  · next h =>
    refine ⟨?_, by simp⟩
    unfold okL at h
    rw [List.all_eq_true] at h
    intro x hx
    obtain ⟨y, hy, rfl⟩ := List.mem_map.1 hx
    have := of_decide_eq_true (h y hy)
    omega
  · exact ⟨fun x hx => absurd hx (by simp), Nat.zero_le _⟩
/-- What Decode returns. -/
def decR (b : List UInt8) : Rt × Nat × Nat :=
  if (decInts b).2.2 ≠ 0 then (noR, 0, (decInts b).2.2)
  else if (decInts (b.drop (decInts b).2.1)).2.2 ≠ 0 then (noR, 0, (decInts (b.drop (decInts b).2.1)).2.2)
  else if okL (decInts b).1 = true ∧ okL (decInts (b.drop (decInts b).2.1)).1 = true ∧ vld (toL (decInts b).1, toL (decInts (b.drop (decInts b).2.1)).1) = 0 then ((toL (decInts b).1, toL (decInts (b.drop (decInts b).2.1)).1), (decInts b).2.1 + (decInts (b.drop (decInts b).2.1)).2.1, 0)
  else (noR, 0, 2)
def DeP (w : World) (R : Rt × Nat × Nat) (e : Ending) (w' : World) : Prop := ∃ v, e = .returned (.tuple #[v, .int .i64 ((R.2.1 : Nat) : Int), .int .i64 ((R.2.2 : Nat) : Int)]) ∧ Rv w' v R.1 ∧ Below w.heap.size w w'
set_option maxHeartbeats 4000000 in
theorem decode_any {v : Value} {b : List UInt8} {w : World} (h : Bw w v b) (hl : b.length ≤ 2097152) (hls : (decInts b).1.length ≤ 1048576 ∧ (decInts (b.drop (decInts b).2.1)).1.length ≤ 1048576) : Calls Tryz.prog 33 #[v] w (DeP w (decR b)) := by
  suffices hgen : ∀ Res, Hid (decR b = Res) → Calls Tryz.prog 33 #[v] w (DeP w Res) from hgen _ (Lib.hid rfl)
  intro Res HRR
  have h' := h
  obtain ⟨A, c, rfl, hc, hnn, hrd⟩ := h'
  have HB0 := Lib.hid ((Below.refl w.heap.size w).alloc (Nat.le_refl _) (.cells #[.slice none 0 0, .slice none 0 0] 27))
  have R0 := Lib.hid (Blk.new w 27 [.slice none 0 0, .slice none 0 0])
  have HG1 := Lib.hid (fun W (hW : Below w.heap.size w W) => gi_any (h.below hW) hl)
  obtain ⟨hu1, hn1, hi1⟩ := di_facts b
  rcases hd1 : decInts b with ⟨l1, u, e1⟩
  rw [hd1] at HG1 hu1 hn1 hi1 hls
  dsimp only at hu1 hn1 hi1
  have hl2 : (b.drop u).length ≤ 2097152 := by rw [List.length_drop]; omega
  have HG2 := Lib.hid (fun W (hW : Below w.heap.size w W) => gi_any ((h.below hW).drop hu1) hl2)
  obtain ⟨hu2, hn2, hi2⟩ := di_facts (b.drop u)
  rcases hd2 : decInts (b.drop u) with ⟨l2, m, e2⟩
  dsimp only at hls
  rw [hd2] at HG2 hu2 hn2 hi2 hls
  dsimp only at hu2 hn2 hi2 hls
  rw [List.length_drop] at hu2 hn2
  have HRR2 := Lib.hid (show (if e1 ≠ 0 then (noR, 0, e1) else if e2 ≠ 0 then (noR, 0, e2) else if okL l1 = true ∧ okL l2 = true ∧ vld (toL l1, toL l2) = 0 then ((toL l1, toL l2), u + m, 0) else (noR, 0, 2)) = Res by
    have := HRR.out
    unfold decR at this
    simp only [hd1, hd2] at this
    exact this)
  obtain ⟨L, hL⟩ : ∃ L, L = b.length := ⟨_, rfl⟩
  rw [← hL] at hu1 hn1 hu2 hn2 hl ⊢
  rw [← hL] at hc
  have HG1' := Lib.hid (fun W hW => (show Calls _ _ #[.slice A L c] W _ from by have := HG1.out W hW; rw [← hL] at this; exact this))
  have hsl := W1.slice_from A L c u hu1
  obtain ⟨A2, hA2⟩ : ∃ x, x = (if c = u then A else A.map (·.add u)) := ⟨_, rfl⟩
  have HG2' := Lib.hid (fun W hW => (show Calls _ _ #[.slice A2 (L - u) (c - u)] W _ from by have := HG2.out W hW; rw [List.length_drop, ← hL, ← hA2] at this; exact this))
  rw [← hA2] at hsl
  have HI1 := Lib.hid (And.intro hls.1 (fun x hx => hi1 x hx)); have HI2 := Lib.hid (And.intro hls.2 (fun x hx => hi2 x hx))
  obtain ⟨s, hs⟩ : ∃ s, s = u + m := ⟨_, rfl⟩
  rw [← hs] at HRR2
  have hw : IntKind.i64.wrap ((u : Int) + (m : Int)) = ((s : Nat) : Int) := by rw [IntWalk.i64_in _ (by omega)]; omega
  have HW := Lib.hid hw
  clear hls hd1 hd2 HG1 HG2 HRR hA2 hL h hc hnn hrd hn1 hn2 hi1 hi2 hs hw hu1 hu2 hl hl2
  go_enter Tryz.func33, Tryz.ntmps33
  go_wp2_with fail
  refine (HG1'.out _ HB0.out).mono ?_
  rintro e w1 ⟨v1, rfl, hi, hb⟩
  have R1 := Lib.hid (R0.out.below hb R0.out.lt); have B1 := Lib.hid (below_step HB0.out hb); have I1 := Lib.hid hi
  clear hi hb R0 HB0 HG1'
  have hre := HRR2.out
  by_cases he1 : e1 = 0
  · subst he1
    rw [if_neg (by simp)] at hre
    go_wp2_with fail
    refine (HG2'.out _ B1.out).mono ?_
    rintro e w2 ⟨v2, rfl, hi, hb⟩
    have R2 := Lib.hid (R1.out.below hb R1.out.lt); have B2 := Lib.hid (below_step B1.out hb); have J1 := Lib.hid (I1.out.below hb); have J2 := Lib.hid hi
    clear hi hb R1 B1 I1 HG2' hsl
    by_cases he2 : e2 = 0
    · subst he2
      rw [if_neg (by simp)] at hre
      have HRE := Lib.hid hre
      clear hre HRR2
      go_wp2_with fail
      refine (fn_iv J1.out HI1.out.1 HI1.out.2).mono ?_
      rintro e w3 ⟨x1, rfl, hs, hb⟩
      have R3 := Lib.hid (R2.out.below hb R2.out.lt); have B3 := Lib.hid (below_step B2.out hb); have J3 := Lib.hid (J2.out.below hb); have S3 := Lib.hid hs
      clear hs hb R2 B2 J1 J2
      go_wp2_with fail
      refine (fn_iv J3.out HI2.out.1 HI2.out.2).mono ?_
      rintro e w4 ⟨x2, rfl, hs, hb⟩
      have R4 := Lib.hid (R3.out.below hb R3.out.lt); have B4 := Lib.hid (below_step B3.out hb); have S4 := Lib.hid (S3.out.below hb); have S5 := Lib.hid hs
      clear hs hb R3 B3 J3 S3
      obtain ⟨A1, m1, j1, e1⟩ := sl_form S4.out
      obtain ⟨A2, m2, j2, e2⟩ := sl_form S5.out
      subst e1 e2
      go_upto_region 10 with fail
      have R6 := Lib.hid (R4.out.alloc (.cells #[.slice A1 m1 j1, .slice A2 m2 j2] 27))
      have B6 := Lib.hid (B4.out.alloc B4.out.size (.cells #[.slice A1 m1 j1, .slice A2 m2 j2] 27))
      have S6 := Lib.hid (S4.out.below (boxb w4 (.slice A1 m1 j1) (.slice A2 m2 j2))); have S7 := Lib.hid (S5.out.below (boxb w4 (.slice A1 m1 j1) (.slice A2 m2 j2)))
      have X6 := Lib.hid (box0 w4 (.slice A1 m1 j1) (.slice A2 m2 j2))
      have HGN := Lib.hid (show w.heap.size < w4.heap.size from R4.out.lt)
      obtain ⟨gn, hgn⟩ : ∃ g, w4.heap.size = g := ⟨_, rfl⟩
      obtain ⟨w6, hw6⟩ : ∃ W, w4.alloc (.cells #[.slice A1 m1 j1, .slice A2 m2 j2] 27) = W := ⟨_, rfl⟩
      rw [hw6] at R6 B6 S6 S7 X6
      rw [hgn] at X6 HGN
      rw [hw6, hgn]
      clear R4 B4 S4 S5 hw6 hgn
      obtain ⟨b1, hb1⟩ : ∃ q, okL l1 = q := ⟨_, rfl⟩
      obtain ⟨b2, hb2⟩ : ∃ q, okL l2 = q := ⟨_, rfl⟩
      have hre := HRE.out
      have HK1 := Lib.hid (toL_okl l1); have HK2 := Lib.hid (toL_okl l2)
      have HV := Lib.hid (valid_wide S6.out S7.out HK1.out.1 HK2.out.1 (by have := HK1.out.2; have := HI1.out.1; omega) (by have := HK2.out.2; have := HI2.out.1; omega))
      rw [hb1, hb2] at hre ⊢
      clear HRE hb1 hb2 HK1 HK2
      cases b1 with
      | false =>
        rw [if_neg (by simp)] at hre
        subst hre
        clear HV HW
        obtain ⟨hc1, hc2, hf1, hf2⟩ := blk_cells2 R6.out
        go_wp2_with fail
        have hbk := (((R6.out).put 0 (.slice none 0 0)).put 1 (.slice none 0 0))
        have hbl := (((B6.out).setCell (p := ⟨w.heap.size, 0, none⟩) (Nat.le_refl _) (.slice none 0 0)).setCell (p := ⟨w.heap.size, 1, none⟩) (Nat.le_refl _) (.slice none 0 0))
        refine bodyPost_ret (v := .tuple #[.agg #[(.slice none 0 0), (.slice none 0 0)], .int .i64 0, .int .i64 2]) ?_ rfl ⟨.agg #[(.slice none 0 0), (.slice none 0 0)], rfl, ⟨_, _, rfl, sl_res (Sl.nil _) R6.out _ _ _ _ _ _, sl_res (Sl.nil _) R6.out _ _ _ _ _ _⟩, hbl⟩
        have hr := run_loadVar_at (P := Tryz.prog) _ ⟨w.heap.size, 0, none⟩ 27 [(.slice none 0 0), (.slice none 0 0)] _ hbk.at Tryz.underlying27 rfl size28
        simp [results, Tryz.results33, asAddr, hr]
      | true =>
        cases b2 with
        | false =>
          rw [if_neg (by simp)] at hre
          subst hre
          clear HV HW
          obtain ⟨hc1, hc2, hf1, hf2⟩ := blk_cells2 R6.out
          go_wp2_with fail
          have hbk := (((R6.out).put 0 (.slice none 0 0)).put 1 (.slice none 0 0))
          have hbl := (((B6.out).setCell (p := ⟨w.heap.size, 0, none⟩) (Nat.le_refl _) (.slice none 0 0)).setCell (p := ⟨w.heap.size, 1, none⟩) (Nat.le_refl _) (.slice none 0 0))
          refine bodyPost_ret (v := .tuple #[.agg #[(.slice none 0 0), (.slice none 0 0)], .int .i64 0, .int .i64 2]) ?_ rfl ⟨.agg #[(.slice none 0 0), (.slice none 0 0)], rfl, ⟨_, _, rfl, sl_res (Sl.nil _) R6.out _ _ _ _ _ _, sl_res (Sl.nil _) R6.out _ _ _ _ _ _⟩, hbl⟩
          have hr := run_loadVar_at (P := Tryz.prog) _ ⟨w.heap.size, 0, none⟩ 27 [(.slice none 0 0), (.slice none 0 0)] _ hbk.at Tryz.underlying27 rfl size28
          simp [results, Tryz.results33, asAddr, hr]
        | true =>
          obtain ⟨vr, hvr⟩ : ∃ v, vld (toL l1, toL l2) = v := ⟨_, rfl⟩
          have HV2 := Lib.hid (show Calls Tryz.prog 62 #[.agg #[.slice A1 m1 j1, .slice A2 m2 j2]] w6 (fun e w' => e = .returned (.int .i64 ((vr : Nat) : Int)) ∧ Below w6.heap.size w6 w') by rw [← hvr]; exact HV.out)
          rw [hvr] at hre
          have HRE := Lib.hid hre
          obtain ⟨hc3, hc4, hf3, hf4⟩ := blk_cells2 X6.out
          clear HV hvr hre
          go_wp2_with fail
          refine HV2.out.mono ?_
          rintro e w7 ⟨rfl, hb⟩
          have R7 := Lib.hid (R6.out.below hb R6.out.lt); have B7 := Lib.hid (below_step B6.out hb); have X7 := Lib.hid (X6.out.below hb X6.out.lt)
          have S8 := Lib.hid (S6.out.below hb); have S9 := Lib.hid (S7.out.below hb)
          clear hb HV2 R6 B6 X6 S6 S7 hc3 hc4 hf3 hf4
          obtain ⟨hc1, hc2, hf1, hf2⟩ := blk_cells2 R7.out
          obtain ⟨hc3, hc4, hf3, hf4⟩ := blk_cells2 X7.out
          have hre := HRE.out
          by_cases hv : vr = 0
          · subst hv
            rw [if_pos (by simp)] at hre
            subst hre
            have hw := HW.out
            clear HRE HW
            go_wp2_with fail
            have hbk := (((R7.out).put 0 (.slice A1 m1 j1)).put 1 (.slice A2 m2 j2))
            have hbl := (((B7.out).setCell (p := ⟨w.heap.size, 0, none⟩) (Nat.le_refl _) (.slice A1 m1 j1)).setCell (p := ⟨w.heap.size, 1, none⟩) (Nat.le_refl _) (.slice A2 m2 j2))
            refine bodyPost_ret (v := .tuple #[.agg #[(.slice A1 m1 j1), (.slice A2 m2 j2)], .int .i64 ((s : Nat) : Int), .int .i64 0]) ?_ rfl ⟨.agg #[(.slice A1 m1 j1), (.slice A2 m2 j2)], rfl, ⟨_, _, rfl, sl_res S8.out R7.out _ _ _ _ _ _, sl_res S9.out R7.out _ _ _ _ _ _⟩, hbl⟩
            have hr := run_loadVar_at (P := Tryz.prog) _ ⟨w.heap.size, 0, none⟩ 27 [(.slice A1 m1 j1), (.slice A2 m2 j2)] _ hbk.at Tryz.underlying27 rfl size28
            simp [results, Tryz.results33, asAddr, hr]
          · rw [if_neg (by simp [hv])] at hre
            subst hre
            have hne : (((vr : Nat) : Int) != 0) = true := by rw [bne_iff_ne]; omega
            clear HRE HW hv
            go_wp2_with fail
            have hbk := (((R7.out).put 0 (.slice none 0 0)).put 1 (.slice none 0 0))
            have hbl := (((B7.out).setCell (p := ⟨w.heap.size, 0, none⟩) (Nat.le_refl _) (.slice none 0 0)).setCell (p := ⟨w.heap.size, 1, none⟩) (Nat.le_refl _) (.slice none 0 0))
            refine bodyPost_ret (v := .tuple #[.agg #[(.slice none 0 0), (.slice none 0 0)], .int .i64 0, .int .i64 2]) ?_ rfl ⟨.agg #[(.slice none 0 0), (.slice none 0 0)], rfl, ⟨_, _, rfl, sl_res (Sl.nil _) R7.out _ _ _ _ _ _, sl_res (Sl.nil _) R7.out _ _ _ _ _ _⟩, hbl⟩
            have hr := run_loadVar_at (P := Tryz.prog) _ ⟨w.heap.size, 0, none⟩ 27 [(.slice none 0 0), (.slice none 0 0)] _ hbk.at Tryz.underlying27 rfl size28
            simp [results, Tryz.results33, asAddr, hr]
    · rw [if_pos he2] at hre
      subst hre
      have hne : (((e2 : Nat) : Int) != 0) = true := by rw [bne_iff_ne]; omega
      clear HRR2 he2
      obtain ⟨hc1, hc2, hf1, hf2⟩ := blk_cells2 R2.out
      go_wp2_with fail
      have hbk := (((R2.out).put 0 (.slice none 0 0)).put 1 (.slice none 0 0))
      have hbl := (((B2.out).setCell (p := ⟨w.heap.size, 0, none⟩) (Nat.le_refl _) (.slice none 0 0)).setCell (p := ⟨w.heap.size, 1, none⟩) (Nat.le_refl _) (.slice none 0 0))
      refine bodyPost_ret (v := .tuple #[.agg #[(.slice none 0 0), (.slice none 0 0)], .int .i64 0, .int .i64 ((e2 : Nat) : Int)]) ?_ rfl ⟨.agg #[(.slice none 0 0), (.slice none 0 0)], rfl, ⟨_, _, rfl, sl_res (Sl.nil _) R2.out _ _ _ _ _ _, sl_res (Sl.nil _) R2.out _ _ _ _ _ _⟩, hbl⟩
      have hr := run_loadVar_at (P := Tryz.prog) _ ⟨w.heap.size, 0, none⟩ 27 [(.slice none 0 0), (.slice none 0 0)] _ hbk.at Tryz.underlying27 rfl size28
      simp [results, Tryz.results33, asAddr, hr]
  · rw [if_pos he1] at hre
    subst hre
    have hne : (((e1 : Nat) : Int) != 0) = true := by rw [bne_iff_ne]; omega
    clear HRR2 he1 HG2' hsl
    obtain ⟨hc1, hc2, hf1, hf2⟩ := blk_cells2 R1.out
    go_wp2_with fail
    have hbk := (((R1.out).put 0 (.slice none 0 0)).put 1 (.slice none 0 0))
    have hbl := (((B1.out).setCell (p := ⟨w.heap.size, 0, none⟩) (Nat.le_refl _) (.slice none 0 0)).setCell (p := ⟨w.heap.size, 1, none⟩) (Nat.le_refl _) (.slice none 0 0))
    refine bodyPost_ret (v := .tuple #[.agg #[(.slice none 0 0), (.slice none 0 0)], .int .i64 0, .int .i64 ((e1 : Nat) : Int)]) ?_ rfl ⟨.agg #[(.slice none 0 0), (.slice none 0 0)], rfl, ⟨_, _, rfl, sl_res (Sl.nil _) R1.out _ _ _ _ _ _, sl_res (Sl.nil _) R1.out _ _ _ _ _ _⟩, hbl⟩
    have hr := run_loadVar_at (P := Tryz.prog) _ ⟨w.heap.size, 0, none⟩ 27 [(.slice none 0 0), (.slice none 0 0)] _ hbk.at Tryz.underlying27 rfl size28
    simp [results, Tryz.results33, asAddr, hr]
end Go.Proofs.YtbfhilbagojdnaaGreat
