/-
  The law RatioReads returns true.
  No condition but the lengths, and that the library's variable MaxLen is there.
-/
import Derived.Test.YtbfhilbagojdnaaGreatTk
import Derived.Test.YtbfhilbagojdnaaGreatHr13
import Derived.Deep.CutBlock
namespace Go.Proofs.YtbfhilbagojdnaaGreat
open Go.RowKit Wr Go.Proofs.YtbfhilbagojdnaaGreat.Nm
open Go.Proofs.YtbfhilbagojdnaaGreat.W1.Wr (okInt decInts encInts)
open Go.Proofs.YtbfhilbagojdnaaGreat.W1 (I64 I64_get I64_len I64_one encInts_le)
set_option linter.unusedVariables false
set_option maxRecDepth 100000

theorem own_at {w : World} {base n : Nat} {v : Value} {xs : List Value} (h : w.ownsRow base 5 1 v n xs) (hn : 0 < n) : ∃ g cap, v = .slice (some ⟨g, 0, none⟩) n cap ∧ n ≤ cap ∧ base ≤ g ∧ g < w.heap.size := by
  rcases h.2 with ⟨_, e⟩ | ⟨g, cap, cur, e, hb, hg, hc, _⟩
  · omega
  · exact ⟨g, cap, e, hc, hb, (Array.getElem?_eq_some_iff.1 hg).1⟩
theorem by_u8 (x : Int) : ∃ t : UInt8, IntKind.u8.wrap x = (t.toNat : Int) := by
  refine ⟨UInt8.ofNat (x % 256).toNat, ?_⟩
  rw [IntKind.wrap_u8', UInt8.toNat_ofNat']
  omega
theorem B8_set (b : List UInt8) (k : Nat) (x : UInt8) : B8 (b.set k x) = (B8 b).set k (.int .u8 (x.toNat : Int)) := by simp [B8, List.map_set]
theorem Bw.take {w : World} {A : Option Addr} {n c k : Nat} {b : List UInt8} (h : Bw w (.slice A n c) b) (hk : k ≤ n) : Bw w (.slice A k c) (b.take k) ∧ (b.take k).length = k := by
  obtain ⟨A', c', e, hc, hn, hr⟩ := h
  injection e with e1 e2 e3
  subst e1 e3
  have hl : (b.take k).length = k := by rw [List.length_take]; omega
  refine ⟨⟨A, c, by rw [hl], by omega, hn, ?_⟩, hl⟩
  have e : B8 (b.take k) = (B8 b).take k := by simp [B8]
  rw [e]; exact hr.take k
theorem encR_len {w : World} {v1 v2 : Value} {r : Rt} (h : Rk w v1 v2 r) : 1 ≤ (encR r.1 r.2).length ∧ (encR r.1 r.2).length ≤ 100000 := by
  have h1 := h.l1; have h2 := h.l2
  have e1 := encInts_le (NbI r.1); have e2 := encInts_le (NbI r.2)
  rw [NbI_len] at e1 e2
  unfold encR
  rw [List.length_append]
  omega
theorem de_rk {w : World} {u1 u2 : Value} {b : List UInt8} (h1 : Sl w u1 (decR b).1.1) (h2 : Sl w u2 (decR b).1.2) : Rk w u1 u2 (decR b).1 := by
  have hno : OkR noR ∧ noR.1.length ≤ 1000 ∧ noR.2.length ≤ 1000 := ⟨⟨fun x hx => absurd hx (by simp [noR]), fun x hx => absurd hx (by simp [noR])⟩, by simp [noR], by simp [noR]⟩
  have h : OkR (decR b).1 ∧ (decR b).1.1.length ≤ 1000 ∧ (decR b).1.2.length ≤ 1000 := by
    unfold decR
    split
    · exact hno
    · split
      · exact hno
      · split
        · next h =>
          have hv := h.2.2
          generalize (decInts b).1 = l1 at hv ⊢
          generalize (decInts (b.drop (decInts b).2.1)).1 = l2 at hv ⊢
          have hs : ¬ (64 < (toL l1).length ∨ 64 < (toL l2).length) := by
            intro hb
            unfold vld at hv
            rw [if_pos hb] at hv
            exact absurd hv (by decide)
          exact ⟨⟨(toL_okl l1).1, (toL_okl l2).1⟩, by show (toL l1).length ≤ 1000; omega, by show (toL l2).length ≤ 1000; omega⟩
        · exact hno
  exact ⟨h1, h2, h.1, h.2.1, h.2.2⟩
set_option maxHeartbeats 8000000 in
theorem reads_walk {A5 A6 : Option Addr} {n5 k5 n6 k6 : Nat} {li : List Int} {raw : List UInt8} (n m how by_ at_ : Int) (w : World) (hM : MaxL w) (h2 : 2 < w.heap.size) (hn : -9223372036854775808 ≤ n ∧ n ≤ 9223372036854775807) (hm : -9223372036854775808 ≤ m ∧ m ≤ 9223372036854775807) (hh : -9223372036854775808 ≤ how ∧ how ≤ 9223372036854775807) (hb : -9223372036854775808 ≤ by_ ∧ by_ ≤ 9223372036854775807) (hat : -9223372036854775808 ≤ at_ ∧ at_ ≤ 9223372036854775807)
    (h5 : Iv w (.slice A5 n5 k5) li) (hl5 : n5 ≤ 9223372036854775807) (ok5 : ∀ x ∈ li, okInt x) (h6 : Bw w (.slice A6 n6 k6) raw) (hl6 : raw.length ≤ 1048576) : Calls Tryz.prog 6 #[.int .i64 n, .int .i64 m, .int .i64 how, .int .i64 by_, .int .i64 at_, .slice A5 n5 k5, .slice A6 n6 k6] w (SmP w true) := by
  have HS1 := Lib.hid (some_any (w := w) n m how by_ hn hm hh hb (A5 := none) (n5 := 0) (k5 := 0) (A6 := none) (n6 := 0) (k6 := 0) (Sl.nil w) (Sl.nil w) (fun x hx => absurd hx (by simp)) (fun x hx => absurd hx (by simp)) (by omega) (by omega))
  have HM := Lib.hid hM; have H2 := Lib.hid h2; have HAT := Lib.hid hat
  have HTK := Lib.hid (fun W (h : Below w.heap.size w W) => show Calls Tryz.prog 38 #[.slice A5 n5 k5, .int .i64 6] W (IvP W (li.take 6)) by
    obtain ⟨A, c, e, hc, hnl, hr⟩ := h5.below h
    injection e with e1 e2 e3
    subst e1 e3
    exact take6_any e2.symm hl5 (by omega) hnl hr)
  have HOK := Lib.hid (show ∀ x ∈ li.take 6, okInt x from fun x hx => ok5 x (List.mem_of_mem_take hx))
  have HRW := Lib.hid (fun W (h : Below w.heap.size w W) => h6.below h)
  have HL6 := Lib.hid hl6
  obtain ⟨x8, h8⟩ := by_u8 by_
  clear hM h2 hn hm hh hb h5 h6 ok5 hl5 hl6 hat
  go_enter Tryz.func6, Tryz.ntmps6
  go_wp2_with fail
  refine HS1.out.mono ?_
  rintro e w1 ⟨v, L, rfl, hL, hR, hb⟩
  have BW := Lib.hid hb
  obtain ⟨g, o, c, rfl, hc7, hgl, hcs⟩ := rls_cells hR hL
  have HG := Lib.hid hgl; have HCS := Lib.hid hcs
  clear hR hb hL hgl hcs hc7 HS1
  go_wp2_with fail
  go_loopw [16] (fun s wr => ∃ i : Nat, i ≤ 7 ∧ s = .int .i64 ((i : Nat) : Int) ∧ Below w1.heap.size w1 wr) (fun s _ => 7 - (intOf s).toNat)
  case atStart => exact ⟨0, Nat.zero_le _, rfl, Below.refl _ _⟩
  case round =>
    obtain ⟨i, hi, rfl, hbel⟩ := hrel
    have BR := Lib.hid hbel
    clear hbel
    rcases Nat.lt_or_ge i 7 with hlt | hge
    · have hiI : (i : Int) < 7 := by omega
      have HI := Lib.hid (show i + 1 ≤ 7 ∧ i < 7 by omega)
      obtain ⟨A1, n1, k1, A2, n2, k2, r, hr, d1, d2, hkr⟩ := HCS.out i hlt
      have c1 := (BR.out.cell (p := ⟨g, o + i * 2, none⟩) HG.out).trans d1
      have c2 := (BR.out.cell (p := ⟨g, o + i * 2 + 1, none⟩) HG.out).trans d2
      have hk := hkr.below BR.out
      have HE := Lib.hid (rencode_any hk.s1 hk.s2 hk.ok.1 hk.ok.2 (by have := hk.l1; omega) (by have := hk.l2; omega))
      have hlo := encR_len hk
      clear hr d1 d2 hkr hk hlt hi
      obtain ⟨b, hbq⟩ : ∃ b, encR r.1 r.2 = b := ⟨_, rfl⟩
      rw [hbq] at HE hlo
      clear hbq
      go_wp2_with fail
      refine HE.out.mono ?_
      rintro e w2 ⟨vb, rfl, ho, hb⟩
      have B2 := Lib.hid (below_step BR.out hb)
      obtain ⟨gb, cb, rfl, hcb, hgb, hgl⟩ := own_at ho (by omega)
      have SB := Lib.hid (own_bw ho)
      obtain ⟨nb, hnb⟩ : ∃ n, n = b.length := ⟨_, rfl⟩
      rw [← hnb] at SB hlo hcb ⊢
      have HNB := Lib.hid hnb; have HLO := Lib.hid hlo
      have hnI : (0 : Int) < (nb : Int) := by omega
      have HA := Lib.hid (around_any at_ nb w2 HAT.out (by omega))
      obtain ⟨k, hk⟩ : ∃ k : Nat, arI at_ nb = (k : Int) := Int.eq_ofNat_of_zero_le (arI_lo _ _ (by omega))
      have hkn : (k : Int) < (nb : Int) := by rw [← hk]; exact arI_hi _ _ (by omega)
      rw [hk] at HA
      have HK := Lib.hid (show k < nb by omega)
      have hkc : (k : Int) ≤ (cb : Int) := by omega
      have hbt := (Below.refl w2.heap.size w2).alloc (Nat.le_refl _) (.cells #[] 5)
      have HBT := Lib.hid hbt
      have HLIT := Lib.hid (World.ownsRow_lit (base := w2.heap.size) (e := 5) (size := 1) w2 #[] 0 (Nat.le_refl _) (by unfold maxLen; omega) rfl)
      have HRB := Lib.hid (show Rd (w2.alloc (.cells #[] 5)) (w2.alloc (.cells #[] 5)).heap.size (some ⟨gb, 0, none⟩) (B8 b) by
        obtain ⟨A', c', e, _, _, hr⟩ := SB.out.below hbt
        injection e with e1 e2 e3
        rw [e1]; exact hr)
      clear BR HE hb ho c1 c2 hnb hlo hgb hgl hbt hk hcb
      go_wp2_with fail
      refine HA.out.mono ?_
      rintro e w3 ⟨rfl, rfl⟩
      clear HA
      go_wp2_with (at_builtin; (refine W1.wpList_append_rd rfl (.tmp 49) (.tmp 50) rfl w2.heap.size (.slice (some ⟨w2.heap.size, 0, none⟩) 0 0) 0 [] rfl HLIT.out (some ⟨gb, 0, none⟩) nb cb (w2.alloc (.cells #[] 5)).heap.size b rfl (fun e => by cases e) HNB.out.symm HRB.out (by have := HLO.out.2; omega) HBT.out.size ?_))
      intro v3 w3 ho hg
      have hb3 := HBT.out.grown hg HBT.out.size (fun q e => (HLIT.out.lt q e).1)
      obtain ⟨g3, c3, rfl, hc3, hg3, hg3l⟩ := own_at ho (by have := HK.out; omega)
      have hfr := ho.frozenAt k
      obtain ⟨y, hy⟩ : ∃ y, w3.cell? ⟨g3, k, none⟩ = some y := by
        have e := ho.cellAt k (by have := HK.out; omega)
        have hkl : k < (B8 b).length := by rw [B8_len, ← HNB.out]; exact HK.out
        exact ⟨(B8 b)[k], by rw [e, List.getElem?_eq_getElem hkl]⟩
      have hb4 := hb3.setCell (p := ⟨g3, k, none⟩) hg3 (.int .u8 (x8.toNat : Int))
      have ho4 := (ho.stored k (.int .u8 (x8.toNat : Int))).1
      rw [← B8_set] at ho4
      obtain ⟨b3, hb3q⟩ : ∃ q, q = b.set k x8 := ⟨_, rfl⟩
      have hl3 : b3.length = nb := by rw [hb3q, List.length_set, ← HNB.out]
      rw [← hb3q] at ho4
      clear hb3q
      have s4 : Bw (w3.setCell ⟨g3, k, none⟩ (.int .u8 (x8.toNat : Int))) (.slice (some ⟨g3, 0, none⟩) nb c3) b3 := own_bw (by rw [hl3]; exact ho4)
      have HB4 := Lib.hid hb4; have S4 := Lib.hid s4; have HL3 := Lib.hid hl3
      clear ho hg hb3 hb4 ho4 s4 hl3 hg3 hg3l hc3 HBT HLIT HRB
      go_upto_region 9 with fail
      clear hy hfr
      obtain ⟨w4, hw4⟩ : ∃ W, w3.setCell ⟨g3, k, none⟩ (.int .u8 (x8.toNat : Int)) = W := ⟨_, rfl⟩
      rw [hw4] at HB4 S4 ⊢
      clear hw4
      have B4 := Lib.hid (below_step B2.out HB4.out); have SB4 := Lib.hid (SB.out.below HB4.out)
      clear HB4 SB B2
      have HT := Lib.hid (HTK.out w4 (below_step BW.out B4.out))
      go_wp2_with fail
      refine HT.out.mono ?_
      rintro e w5 ⟨vt, rfl, hiv, hb⟩
      have B5 := Lib.hid (below_step B4.out hb); have SB5 := Lib.hid (SB4.out.below hb); have S5 := Lib.hid (S4.out.below hb); have HIV := Lib.hid hiv
      clear hiv hb HT B4 SB4 S4
      have HQ := Lib.hid (rints_iv HIV.out (by rw [List.length_take]; omega) HOK.out)
      have hq2 := (encInts_le (li.take 6)).1
      have hq1 := (encInts_le (li.take 6)).2
      have hq3 : (li.take 6).length ≤ 6 := by rw [List.length_take]; omega
      obtain ⟨q, hqq⟩ : ∃ q, encInts (li.take 6) = q := ⟨_, rfl⟩
      rw [hqq] at HQ hq1 hq2
      clear hqq
      go_wp2_with fail
      refine HQ.out.mono ?_
      rintro e w6 ⟨vo, rfl, ho, hb⟩
      have SB6 := Lib.hid (SB5.out.below hb); have HO := Lib.hid ho; have HB6 := Lib.hid hb
      have HQL := Lib.hid (show q.length ≤ 100 by omega)
      have HRB := Lib.hid (show Rd w6 w6.heap.size (some ⟨gb, 0, none⟩) (B8 b) by
        obtain ⟨A', c', e, _, _, hr⟩ := SB6.out
        injection e with e1 e2 e3
        rw [e1]; exact hr)
      clear ho hb HQ SB6 HIV hq1 hq2 hq3
      go_wp2_with (at_builtin; (refine W1.wpList_append_rd rfl (.tmp 59) (.tmp 60) rfl w5.heap.size vo q.length (B8 q) rfl HO.out (some ⟨gb, 0, none⟩) nb cb w6.heap.size b rfl (fun e => by cases e) HNB.out.symm HRB.out (by have := HLO.out.2; have := HQL.out; omega) HB6.out.size ?_))
      intro v7 w7 ho hg
      have hb7 := HB6.out.grown hg HB6.out.size (fun q e => (HO.out.lt q e).1)
      rw [← B8_append] at ho
      have hl7 : q.length + nb = (q ++ b).length := by rw [List.length_append, ← HNB.out]
      rw [hl7] at ho
      have s7 := own_bw ho
      obtain ⟨b7, hb7q⟩ : ∃ x, x = q ++ b := ⟨_, rfl⟩
      have hl7b : b7.length ≤ 1048576 := by rw [hb7q, ← hl7]; have := HQL.out; have := HLO.out.2; omega
      rw [← hb7q] at s7
      obtain ⟨n7, hn7⟩ : ∃ n, n = b7.length := ⟨_, rfl⟩
      obtain ⟨A7, k7, e7, _, _, _⟩ := id s7
      rw [← hn7] at e7
      subst e7
      have B7 := Lib.hid (below_step B5.out hb7); have SB7 := Lib.hid (SB5.out.below hb7); have S7 := Lib.hid (S5.out.below hb7)
      have HS7 := Lib.hid s7; have HL7 := Lib.hid hl7b
      clear ho hg hb7 hl7 s7 hl7b hb7q hn7 B5 SB5 S5 HO HB6 HRB HQL
      go_upto_region 11 with fail
      have hal := (Below.refl w7.heap.size w7).alloc (Nat.le_refl _) (.cells #[.slice (some ⟨gb, 0, none⟩) nb cb, .slice (some ⟨gb, 0, none⟩) k cb, .slice (some ⟨g3, 0, none⟩) nb c3, .slice A6 n6 k6, .slice A7 n7 k7] 38)
      have x8 : Blk (w7.alloc (.cells #[.slice (some ⟨gb, 0, none⟩) nb cb, .slice (some ⟨gb, 0, none⟩) k cb, .slice (some ⟨g3, 0, none⟩) nb c3, .slice A6 n6 k6, .slice A7 n7 k7] 38)) w7.heap.size 38 [.slice (some ⟨gb, 0, none⟩) nb cb, .slice (some ⟨gb, 0, none⟩) k cb, .slice (some ⟨g3, 0, none⟩) nb c3, .slice A6 n6 k6, .slice A7 n7 k7] := Blk.new w7 38 _
      have B8 := Lib.hid (below_step B7.out hal); have SB8 := Lib.hid (SB7.out.below hal); have S8 := Lib.hid (S7.out.below hal); have T8 := Lib.hid (HS7.out.below hal)
      have R8 := Lib.hid (HRW.out _ (below_step BW.out B8.out))
      obtain ⟨gL, hgL⟩ : ∃ g, w7.heap.size = g := ⟨_, rfl⟩
      obtain ⟨w8, hw8⟩ : ∃ W, w7.alloc (.cells #[.slice (some ⟨gb, 0, none⟩) nb cb, .slice (some ⟨gb, 0, none⟩) k cb, .slice (some ⟨g3, 0, none⟩) nb c3, .slice A6 n6 k6, .slice A7 n7 k7] 38) = W := ⟨_, rfl⟩
      rw [hw8] at x8 B8 SB8 S8 T8 R8 ⊢
      rw [hgL] at x8 ⊢
      have HGL := Lib.hid x8.lt
      have HCL := Lib.hid (show ∀ j, j < 5 → ∃ A n c bj, w8.cell? ⟨gL, j, none⟩ = some (.slice A n c) ∧ Bw w8 (.slice A n c) bj ∧ bj.length ≤ 1048576 from fun j hj => by
        have hl := HLO.out.2
        rcases (show j = 0 ∨ j = 1 ∨ j = 2 ∨ j = 3 ∨ j = 4 by omega) with rfl | rfl | rfl | rfl | rfl
        · exact ⟨_, _, _, b, (x8.cell 0).trans rfl, SB8.out, by rw [← HNB.out]; omega⟩
        · exact ⟨_, _, _, _, (x8.cell 1).trans rfl, (SB8.out.take (Nat.le_of_lt HK.out)).1, by rw [(SB8.out.take (Nat.le_of_lt HK.out)).2]; have := HK.out; omega⟩
        · exact ⟨_, _, _, b3, (x8.cell 2).trans rfl, S8.out, by rw [HL3.out]; omega⟩
        · exact ⟨_, _, _, raw, (x8.cell 3).trans rfl, R8.out, HL6.out⟩
        · exact ⟨_, _, _, b7, (x8.cell 4).trans rfl, T8.out, HL7.out⟩)
      clear hal x8 hw8 hgL B7 SB7 S7 HS7 SB8 S8 T8 R8 HL3 HL7 HNB HLO HK hnI hkn hkc
      go_wp2_with fail
      go_loopw [22] (fun s wr => ∃ j : Nat, j ≤ 5 ∧ s = .int .i64 ((j : Nat) : Int) ∧ Below w8.heap.size w8 wr) (fun s _ => 5 - (intOf s).toNat)
      case atStart => exact ⟨0, Nat.zero_le _, rfl, Below.refl _ _⟩
      case round =>
        rename World => wx
        obtain ⟨j, hj, rfl, hbel⟩ := hrel
        have BR := Lib.hid hbel
        clear hbel
        rcases Nat.lt_or_ge j 5 with hlt | hge
        · have hjI : (j : Int) < 5 := by omega
          have HJ := Lib.hid (show j + 1 ≤ 5 by omega)
          obtain ⟨A, nj, cj, bj, hcell, hbw, hlen⟩ := HCL.out j hlt
          have HCJ := Lib.hid (fun W (h : Below w8.heap.size w8 W) => (h.cell (p := ⟨gL, j, none⟩) HGL.out).trans hcell)
          obtain ⟨r', u', e', hR⟩ : ∃ r' u' e', decR bj = (r', u', e') := ⟨_, _, _, rfl⟩
          have HD1 := Lib.hid (fun W (h : Below w8.heap.size w8 W) => show Calls Tryz.prog 33 #[.slice A nj cj] W (fun e w' => ∃ v, e = .returned (.tuple #[v, .int .i64 ((u' : Nat) : Int), .int .i64 ((e' : Nat) : Int)]) ∧ Rv w' v r' ∧ Below W.heap.size W w') by have h := decode_any (hbw.below h) hlen; rw [hR] at h; exact h)
          have HD2 := Lib.hid (fun W (h : Below w8.heap.size w8 W) => show Calls Tryz.prog 39 #[.slice A nj cj] W (fun e w' => ∃ v, e = .returned (.tuple #[v, .int .i64 ((u' : Nat) : Int), .int .i64 ((e' : Nat) : Int)]) ∧ Rv w' v r' ∧ Below W.heap.size W w') by have h := rdecode_any (hbw.below h) hlen; rw [hR] at h; exact h)
          have HRK := Lib.hid (fun W u1 u2 (h1 : Sl W u1 r'.1) (h2 : Sl W u2 r'.2) => show Rk W u1 u2 r' by have h := de_rk (b := bj) (w := W) (u1 := u1) (u2 := u2); rw [hR] at h; exact h h1 h2)
          clear hcell hbw hlen hR hlt hj
          have hc := HCJ.out _ BR.out
          go_wp2_with fail
          refine (HD1.out _ BR.out).mono ?_
          rintro e w9 ⟨v, rfl, ⟨u1, u2, rfl, s1, s2⟩, hb⟩
          have hk := HRK.out _ _ _ s1 s2
          obtain ⟨C1, m1, j1, e1⟩ := sl_form s1
          obtain ⟨C2, m2, j2, e2⟩ := sl_form s2
          subst e1 e2
          have B9 := Lib.hid (below_step BR.out hb); have K9 := Lib.hid hk
          clear hb hk s1 s2 BR HD1 hc
          go_upto_region 15 with fail
          have VA := Lib.hid (Bx.new K9.out); have B10 := Lib.hid (below_step B9.out (boxb w9 (.slice C1 m1 j1) (.slice C2 m2 j2)))
          clear B9 K9
          obtain ⟨ga, hga⟩ : ∃ g, w9.heap.size = g := ⟨_, rfl⟩
          obtain ⟨w10, hw10⟩ : ∃ W, w9.alloc (.cells #[.slice C1 m1 j1, .slice C2 m2 j2] 27) = W := ⟨_, rfl⟩
          rw [hw10] at VA B10 ⊢
          rw [hga] at VA ⊢
          clear hga hw10
          have hc := HCJ.out _ B10.out
          go_wp2_with fail
          refine (HD2.out _ B10.out).mono ?_
          rintro e w11 ⟨v, rfl, ⟨u1, u2, rfl, s1, s2⟩, hb⟩
          have hk := HRK.out _ _ _ s1 s2
          obtain ⟨D1, p1, q1, e1⟩ := sl_form s1
          obtain ⟨D2, p2, q2, e2⟩ := sl_form s2
          subst e1 e2
          have B11 := Lib.hid (below_step B10.out hb); have K11 := Lib.hid hk; have VA11 := Lib.hid (VA.out.below hb)
          clear hb hk s1 s2 B10 VA HD2 hc
          go_upto_region 16 with fail
          have VB := Lib.hid (Bx.new K11.out); have B12 := Lib.hid (below_step B11.out (boxb w11 (.slice D1 p1 q1) (.slice D2 p2 q2))); have VA := Lib.hid (VA11.out.below (boxb w11 (.slice D1 p1 q1) (.slice D2 p2 q2)))
          clear B11 K11 VA11
          obtain ⟨gd, hgd⟩ : ∃ g, w11.heap.size = g := ⟨_, rfl⟩
          obtain ⟨w12, hw12⟩ : ∃ W, w11.alloc (.cells #[.slice D1 p1 q1, .slice D2 p2 q2] 27) = W := ⟨_, rfl⟩
          rw [hw12] at VA VB B12 ⊢
          rw [hgd] at VB ⊢
          clear hgd hw12
          obtain ⟨hc1, hc2, hf1, hf2⟩ := blk_cells2 VA.out.b
          obtain ⟨hc3, hc4, hf3, hf4⟩ := blk_cells2 VB.out.b
          have hne : (((e' : Nat) : Int) != ((e' : Nat) : Int)) = false := by simp
          have hne2 : (((u' : Nat) : Int) != ((u' : Nat) : Int)) = false := by simp
          have hsm := rsame_any VA.out.k VB.out.k
          rw [decide_eq_true rfl] at hsm
          have HS := Lib.hid hsm
          clear hsm
          go_wp2_with fail
          refine HS.out.mono ?_
          rintro e w13 ⟨rfl, hb⟩
          have B13 := Lib.hid (below_step B12.out hb)
          clear hb HS hc1 hc2 hf1 hf2 hc3 hc4 hf3 hf4 VA VB B12 hne hne2
          go_wp2_with fail
          go_roundw
          case rel =>
            have hr1 : ∃ q : Nat, q ≤ 5 ∧ (.int .i64 ((j : Int) + 1) : Value) = .int .i64 ((q : Nat) : Int) ∧ Below w8.heap.size w8 w13 := ⟨j + 1, HJ.out, by simp, B13.out⟩
            first | exact hr1 | ((repeat apply Exists.intro); exact ⟨hr1, rfl⟩)
          case measure => simp only [intOf]; omega
        · have hjn : j = 5 := by omega
          subst hjn
          have BE := Lib.hid (below_step B8.out BR.out)
          clear hj hge BR
          go_wp2_with fail
          go_roundw
          case rel =>
            have hr1 : ∃ q : Nat, q ≤ 7 ∧ (.int .i64 ((i : Int) + 1) : Value) = .int .i64 ((q : Nat) : Int) ∧ Below w1.heap.size w1 wx := ⟨i + 1, HI.out.1, by simp, BE.out⟩
            first | exact hr1 | ((repeat apply Exists.intro); exact ⟨hr1, rfl⟩)
          case measure => simp only [intOf]; omega
    · have hin : i = 7 := by omega
      subst hin
      clear hi hge
      have BF := Lib.hid (below_step BW.out BR.out)
      clear BR BW HCS HG
      go_wp2_with fail
      refine (lives_any wr (HM.out.below H2.out BF.out) (by have := H2.out; have := BF.out.size; omega)).mono ?_
      rintro e w9 ⟨rfl, hb⟩
      have BL := Lib.hid (below_step BF.out hb)
      clear hb
      go_wp2_with fail
      go_ret
      exact ⟨rfl, BL.out⟩
end Go.Proofs.YtbfhilbagojdnaaGreat
