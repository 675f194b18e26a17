/-
  The contract of the writer's shape, given node's.
  No condition but the lengths.
-/
import Derived.Test.YtpbhgebblpdmnaaDoorZ
import Derived.Test.YtpbhgebblpdmnaaDoorGWlWx
namespace Go.Proofs.YtpbhgebblpdmnaaDoor
open Go.RowKit Wr Src
set_option linter.unusedVariables false
set_option maxRecDepth 100000
section
variable {B h d dp : Nat} {w : World} {v : Value} {x : Src.Wr}
set_option maxHeartbeats 8000000 in
theorem shape_walk (hB : B ≤ h) (hn : WNodeC B h d) (hs : WS h w v x dp) (ht : Tab B w) (hl : Lim 100 x) (hd : dp + d = 24) (kd : Nat) (hkd : kd < 37) (nt : Str) (nz : Int) (nl : List Nd) (hf : Fine (kd : Int) nt nz) (A0 : Option Addr) (L0 C0 : Nat) (hL0 : L0 = nl.length) (hk : KV w h (.slice A0 L0 C0) nl) :
  Calls Tryd.prog 42 #[pt h, .agg #[iv (kd : Int), sv nt, iv nz, .slice A0 L0 C0]] w fun en w' => en = .returned (.tuple #[]) ∧ WOut h w v (wParts (wNode d) (.mk (kd : Int) nt nz nl) (Src.shape kd).parts nl (if (Src.shape kd).word = [] then x else x.put (Src.shape kd).word)) dp w' := by
 obtain ⟨R, hR⟩ : ∃ R, R = wParts (wNode d) (.mk (kd : Int) nt nz nl) (Src.shape kd).parts nl (if (Src.shape kd).word = [] then x else x.put (Src.shape kd).word) := ⟨_, rfl⟩
 rw [← hR]
 obtain ⟨wb, hwb⟩ : ∃ wb, wb = w.heap.size := ⟨_, rfl⟩
 have HWB := Lh hwb
 have HWb := Lh hwb.symm
 obtain ⟨p, hp⟩ : ∃ p, p = (Src.shape kd).parts := ⟨_, rfl⟩
 obtain ⟨wd, hwd⟩ : ∃ p, p = (Src.shape kd).word := ⟨_, rfl⟩
 obtain ⟨lo, hlo⟩ : ∃ p, p = (Src.shape kd).low := ⟨_, rfl⟩
 obtain ⟨hi, hhi⟩ : ∃ p, p = (Src.shape kd).high := ⟨_, rfl⟩
 have HP4 := Lh (show p.length ≤ 4 by rw [hp]; exact shape_len kd hkd)
 have HPE := Lh hp
 have HWD := Lh (show wd.length ≤ 9000000000 by
  have : ∀ k, k < 37 → (Src.shape k).word.length ≤ 100 := by decide
  rw [hwd]; exact Nat.le_trans (this kd hkd) (by omega))
 obtain ⟨w0, hw0⟩ : ∃ w0, w0 = w.alloc (.cells #[.int .i64 (kd : Int), .string ⟨nt.toArray⟩, .int .i64 nz, .slice A0 L0 C0] 25) := ⟨_, rfl⟩
 obtain ⟨w1, hw1⟩ : ∃ w1, w1 = w0.alloc (.cells #[sv wd, sv p, nv lo, nv hi] 82) := ⟨_, rfl⟩
 have s0 : w0.heap.size = wb + 1 := by rw [hw0, hwb]; simp
 have l0 : Below w.heap.size w w0 := by rw [hw0]; exact (Below.refl _ _).alloc (Nat.le_refl _) _
 have l1 : Below w0.heap.size w0 w1 := by rw [hw1]; exact (Below.refl _ _).alloc (Nat.le_refl _) _
 have nb : Blk w0 wb 25 [.int .i64 (kd : Int), sv nt, iv nz, .slice A0 L0 C0] := by rw [hw0, hwb]; exact Blk.new w _ _
 have xb : Blk w1 (wb + 1) 82 [sv wd, sv p, nv lo, nv hi] := by rw [hw1, ← s0]; exact Blk.new w0 _ _
 have L1 := below_step l0 l1
 have NN := Lh (nb.below l1 nb.lt)
 have XB := Lh xb
 have SS := Lh (hs.below L1)
 have KK := Lh (hk.below L1)
 have TT := Lh (ht.below L1)
 have QQ := Lh (WK.below (h := h) (v := v) L1)
 have LL0 := Lh hl
 have FF := Lh (show some wb ≠ v.ownBlock ∧ some (wb + 1) ≠ v.ownBlock from ⟨hs.fresh (by omega), hs.fresh (by omega)⟩)
 have HWh := Lh (show wb ≠ h ∧ wb + 1 ≠ h from by have := hs.hlt; omega)
 have HWN := Lh hn; have HDP := Lh hd; have HFi := Lh hf; have HL0 := Lh hL0
 have W0 := Lh hw0; have W1 := Lh hw1; have S0 := Lh s0
 obtain ⟨bs, os, cs, bg, og, cg, t0⟩ := ht.below l0
 have v1 := t0.v1
 obtain ⟨c1, c2, c3, c4⟩ := t0.sh kd hkd
 rw [← hwd] at c1
 rw [← hp] at c2
 rw [← hlo] at c3
 rw [← hhi] at c4
 rw [← hp, ← hwd] at hR
 have HR0 := Lh hR
 have hkI : (kd : Int) < 37 := by omega
 have y0 := nb.cell 0
 simp only [g0, gs] at y0
 have hpz : (⟨p.toArray⟩ : ByteArray).size = p.length := rfl
 have hwz : (wd == []) = decide (wd = []) := by rw [Bool.eq_iff_iff, beq_iff_eq, decide_eq_true_iff]
 clear hs ht hk hl hn hd hf hL0 hwb hp hwd hlo hhi hw0 hw1 s0 l0 l1 nb xb L1 t0 hR
 go_enter Tryd.func42, Tryd.ntmps42
 go_upto_region 1 with fail
 rw [← W0.out, HWb.out]
 go_upto_region 2 with fail
 rw [S0.out]
 change Code.wp _ _ _ _ (w0.alloc (.cells #[sv wd, sv p, nv lo, nv hi] 82))
 rw [← W1.out]
 clear v1 c1 c2 c3 c4 y0
 obtain ⟨x0, x1, x2, x3⟩ : w1.cell? ⟨wb + 1, 0, none⟩ = some (sv wd) ∧ w1.cell? ⟨wb + 1, 1, none⟩ = some (sv p) ∧ w1.cell? ⟨wb + 1, 2, none⟩ = some (nv lo) ∧ w1.cell? ⟨wb + 1, 3, none⟩ = some (nv hi) := ⟨XB.out.cell 0, XB.out.cell 1, XB.out.cell 2, XB.out.cell 3⟩
 have y3 := NN.out.cell 3
 simp only [g0, gs] at y3
 have hpI : (p.length : Int) ≤ 4 := by have := HP4.out; omega
 by_cases hw : wd = []
 ·
  have HRR := Lh (show R = wParts (wNode d) (.mk (kd : Int) nt nz nl) p nl x by rw [HR0.out, if_pos hw])
  have LL : Hid (Lim (200 + 0) x) := Lh (LL0.out.mono (by omega))
  have hwq : (wd == []) = true := by rw [hwz, decide_eq_true hw]
  have hwq2 : wd.isEmpty = true := by rw [hw]; rfl
  have hwq3 : (wd != []) = false := by rw [bne, hwq]; rfl
  clear hwz hw
  have HE0 : Hid (wParts (wNode d) (.mk (kd : Int) nt nz nl) (p.drop 0) nl x = R) := Lh HRR.out.symm
  clear HRR
  go_wp2_with fail
  clear x0 x1 x2 x3 y3
  go_loopw [5, 24] (fun s5 s24 wr => ∃ (i : Nat) (A' : Option Addr) (c' : Nat) (l' : List Nd) (v' : Value) (x' : Src.Wr), i ≤ p.length ∧ s5 = .slice A' l'.length c' ∧ s24 = .int .i64 (i : Int) ∧ Hid (KV wr h (.slice A' l'.length c') l') ∧ Hid (WS h wr v' x' dp) ∧ Hid (WK h w v wr v') ∧ Hid (Lim (200 + i) x') ∧ Hid (Tab B wr) ∧ Hid (Blk wr wb 25 [.int .i64 (kd : Int), sv nt, iv nz, .slice A0 L0 C0]) ∧ Hid (Blk wr (wb + 1) 82 [sv wd, sv p, nv lo, nv hi]) ∧ Hid (some wb ≠ v'.ownBlock ∧ some (wb + 1) ≠ v'.ownBlock) ∧ Hid (wParts (wNode d) (.mk (kd : Int) nt nz nl) (p.drop i) l' x' = R)) (fun _ s24 _ => p.length - (intOf s24).toNat)
  case atStart => exact ⟨0, A0, C0, nl, v, x, Nat.zero_le _, by rw [HL0.out], rfl, by rw [← HL0.out]; exact KK, SS, QQ, LL, TT, NN, XB, FF, HE0⟩
  case round =>
   clear HE0 KK SS QQ LL TT NN XB FF
   obtain ⟨i, A', c', l', v', x', hi1, rfl, rfl, KR, SR, QR, LR, TR, NR, XR, FR, HR⟩ := hrel
   obtain ⟨n', hn'⟩ : ∃ n, n = l'.length := ⟨_, rfl⟩
   have KR' := KR
   rw [← hn'] at KR' ⊢
   have HN' := Lh hn'
   clear hn'
   rcases Nat.lt_or_ge i p.length with hlt | hge
   ·
    have hiI : (i : Int) < (p.length : Int) := by omega
    obtain ⟨c, hc⟩ : ∃ c, p[i]? = some c := ⟨_, List.getElem?_eq_getElem hlt⟩
    have HEX := Lh (sv_one hc)
    have LN : Hid (Lim (200 + (i + 1)) (wPart (wNode d) (.mk (kd : Int) nt nz nl) c l' x').2) := Lh ((lim_part (lim_node d) (.mk (kd : Int) nt nz nl) c l' _ _ LR.out).mono (by have := HDP.out; omega))
    have HNX : Hid (∀ l2, Hid (l2 = (wPart (wNode d) (.mk (kd : Int) nt nz nl) c l' x').1 ∨ c = 73 ∨ c = 83) → Hid (wParts (wNode d) (.mk (kd : Int) nt nz nl) (p.drop (i + 1)) l2 (wPart (wNode d) (.mk (kd : Int) nt nz nl) c l' x').2 = R)) := Lh (fun l2 hl2 => Lh (by
     have hdr : p.drop i = c :: p.drop (i + 1) := by
      obtain ⟨h1, h2⟩ := List.getElem?_eq_some_iff.1 hc
      rw [List.drop_eq_getElem_cons h1, h2]
     rw [← HR.out, hdr]
     show _ = wParts (wNode d) (.mk (kd : Int) nt nz nl) (p.drop (i + 1)) (wPart (wNode d) (.mk (kd : Int) nt nz nl) c l' x').1 (wPart (wNode d) (.mk (kd : Int) nt nz nl) c l' x').2
     rcases hl2.out with h1 | h1
     ·
      rw [h1]
     ·
      refine parts_free _ _ _ _ ?_
      have := shape_free kd hkd i (by have := HP4.out; omega)
      rw [← HPE.out, hc] at this
      exact this (h1.imp (fun e => by rw [e]) (fun e => by rw [e]))))
    have hiJ : (i : Int) + 1 ≤ (p.length : Int) := by omega
    have hz1 : (0 : Int) ≤ (i : Int) + 1 := by omega
    have hz2 : (i : Int) ≤ (i : Int) + 1 := by omega
    have q1 : IntKind.i64.wrap ((i : Int) + 1) = (i : Int) + 1 := IntWalk.i64_in _ (by have := HP4.out; omega)
    have LRR := LR
    clear hc HR LR KR
    go_wp2_with fail
    refine wp_region_any (by kernel_rfl) ?_
    change wpAny _ _ _ _ _ _ _ (World.drew wr)
    have SR := Lh (SR.out.below ((Below.refl _ _).drew))
    have KR' := Lh (KR'.out.below ((Below.refl _ _).drew))
    have TR := Lh (TR.out.below ((Below.refl _ _).drew))
    have QR := Lh (QR.out.trans (WK.below ((Below.refl _ _).drew)))
    have NR := Lh (NR.out.drew); have XR := Lh (XR.out.drew)
    have HPA := Lh (wpart_any hB HWN.out SR.out TR.out LRR.out (by have := HP4.out; omega) HDP.out (kd : Int) nt nz nl HFi.out A0 L0 C0 _ l' KR'.out c)
    generalize World.drew wr = wdr at SR KR' TR QR NR XR HPA ⊢
    refine tg 0 (pt h) ?_
    refine tg 2 (.pointer (some ⟨wb + 1, 1, none⟩)) ?_
    refine tg 4 (.int .i64 (i : Int)) ?_
    refine tg 5 (.int .i64 (i : Int)) ?_
    refine tg 6 (.int .i64 ((i : Int) + 1)) ?_
    refine tg 8 (.slice A' n' c') ?_
    refine rm [1, 3] (ac (fun K hK => ?_) (ac (fun K hK => ?_) AllReady.nil))
    ·
     refine wp_load_at 25 (.tmp 3) rfl ⟨wb, 0, none⟩ rfl [.int .i64 (kd : Int), sv nt, iv nz, .slice A0 L0 C0] _ NR.out.at Tryd.underlying25 rfl size25 (hK _ _ ?_)
     clear hK K
     try simp only [zp, zn, zu, zv, zw]
     refine r1 3 (fun K hK => ?_)
     have c1 := XR.out.cell 1
     simp only [g0, gs] at c1
     go_simp
     clear c1
     try (refine hk hK ?_; clear hK K)
     refine tg 7 (.string ((⟨p.toArray⟩ : ByteArray).extract i (i + 1))) ?_
     refine r1 9 (fun K hK => ?_)
     go_simp
     rw [HEX.out]
     refine HPA.out.mono ?_
     rintro e w5 ⟨v5, l2, rfl, hk5, hl5, v6, s6, q6⟩
     obtain ⟨A5, c5, x5, rfl, _⟩ := id hk5
     have HK5 := Lh hk5
     have HL5 := Lh hl5
     have HS6 := Lh s6
     have T6 := Lh (q6.tab SR.out TR.out hB)
     have N6 := Lh (q6.blk NR.out HWh.out.1 FR.out.1)
     have X6 := Lh (q6.blk XR.out HWh.out.2 FR.out.2)
     have Q6 := Lh (QR.out.trans q6)
     clear s6 q6 hk5 hl5 HPA
     go_wp2_with fail
     try (refine hk hK ?_; clear hK K)
     refine tg 10 (.slice A5 l2.length c5) ?_
     refine wpAny_done (by kernel_rfl) ?_ _
     try simp only [zp, zn, zu, zv, zw]
     go_wp2_with fail
     go_roundw
     case rel => exact ⟨i + 1, A5, c5, l2, v6, _, by omega, rfl, by simp, HK5, HS6, Q6, LN, T6, Lh N6.out.1, Lh X6.out.1, Lh ⟨N6.out.2, X6.out.2⟩, HNX.out l2 HL5⟩
     case measure => simp only [intOf]; omega
    ·
     have c1 := XR.out.cell 1
     simp only [g0, gs] at c1
     go_simp
     clear c1
     try (refine hk hK ?_; clear hK K)
     refine tg 7 (.string ((⟨p.toArray⟩ : ByteArray).extract i (i + 1))) ?_
     refine r1 1 (fun K hK => ?_)
     refine wp_load_at 25 (.tmp 3) rfl ⟨wb, 0, none⟩ rfl [.int .i64 (kd : Int), sv nt, iv nz, .slice A0 L0 C0] _ NR.out.at Tryd.underlying25 rfl size25 (hK _ _ ?_)
     clear hK K
     try simp only [zp, zn, zu, zv, zw]
     refine r1 9 (fun K hK => ?_)
     go_simp
     rw [HEX.out]
     refine HPA.out.mono ?_
     rintro e w5 ⟨v5, l2, rfl, hk5, hl5, v6, s6, q6⟩
     obtain ⟨A5, c5, x5, rfl, _⟩ := id hk5
     have HK5 := Lh hk5
     have HL5 := Lh hl5
     have HS6 := Lh s6
     have T6 := Lh (q6.tab SR.out TR.out hB)
     have N6 := Lh (q6.blk NR.out HWh.out.1 FR.out.1)
     have X6 := Lh (q6.blk XR.out HWh.out.2 FR.out.2)
     have Q6 := Lh (QR.out.trans q6)
     clear s6 q6 hk5 hl5 HPA
     go_wp2_with fail
     try (refine hk hK ?_; clear hK K)
     refine tg 10 (.slice A5 l2.length c5) ?_
     refine wpAny_done (by kernel_rfl) ?_ _
     try simp only [zp, zn, zu, zv, zw]
     go_wp2_with fail
     go_roundw
     case rel => exact ⟨i + 1, A5, c5, l2, v6, _, by omega, rfl, by simp, HK5, HS6, Q6, LN, T6, Lh N6.out.1, Lh X6.out.1, Lh ⟨N6.out.2, X6.out.2⟩, HNX.out l2 HL5⟩
     case measure => simp only [intOf]; omega
   ·
    obtain rfl : i = p.length := by omega
    have HX := Lh (show x' = R by rw [← HR.out, List.drop_eq_nil_of_le (Nat.le_refl _)]; rfl)
    clear HR
    go_wp2_with fail
    exact bodyPost_end (v := .tuple #[]) (res_none rfl _ _) rfl ⟨rfl, v', by rw [← HX.out]; exact SR.out, QR.out⟩
 ·
  have HRR := Lh (show R = wParts (wNode d) (.mk (kd : Int) nt nz nl) p nl (x.put wd) by rw [HR0.out, if_neg hw])
  have LL : Hid (Lim (200 + 0) (x.put wd)) := Lh ((LL0.out.put wd).mono (by omega))
  have HX := Lh (put_any SS.out (LL0.out.mono (by omega)) wd HWD.out)
  have hwq : (wd == []) = false := by rw [hwz, decide_eq_false hw]
  have hwq2 : wd.isEmpty = false := by cases wd with | nil => exact absurd rfl hw | cons a b => rfl
  have hwq3 : (wd != []) = true := by rw [bne, hwq]; rfl
  clear hwz hw
  go_wp2_with fail
  refine HX.out.mono ?_
  rintro e w3 ⟨rfl, v3, s3, q3⟩
  have KK := Lh (q3.kv SS.out KK.out)
  have TT := Lh (q3.tab SS.out TT.out hB)
  have N3 := Lh (q3.blk NN.out HWh.out.1 FF.out.1)
  have X3 := Lh (q3.blk XB.out HWh.out.2 FF.out.2)
  have NN := Lh N3.out.1
  have XB := Lh X3.out.1
  have FF := Lh (show some wb ≠ v3.ownBlock ∧ some (wb + 1) ≠ v3.ownBlock from ⟨N3.out.2, X3.out.2⟩)
  have QQ := Lh (QQ.out.trans q3)
  have SS := Lh s3
  clear s3 q3 x0 x1 x2 x3 y3 HX N3 X3
  obtain ⟨x0, x1, x2, x3⟩ : w3.cell? ⟨wb + 1, 0, none⟩ = some (sv wd) ∧ w3.cell? ⟨wb + 1, 1, none⟩ = some (sv p) ∧ w3.cell? ⟨wb + 1, 2, none⟩ = some (nv lo) ∧ w3.cell? ⟨wb + 1, 3, none⟩ = some (nv hi) := ⟨XB.out.cell 0, XB.out.cell 1, XB.out.cell 2, XB.out.cell 3⟩
  have y3 := NN.out.cell 3
  simp only [g0, gs] at y3
  have HE0 : Hid (wParts (wNode d) (.mk (kd : Int) nt nz nl) (p.drop 0) nl (x.put wd) = R) := Lh HRR.out.symm
  clear HRR
  go_wp2_with fail
  clear x0 x1 x2 x3 y3
  go_loopw [5, 24] (fun s5 s24 wr => ∃ (i : Nat) (A' : Option Addr) (c' : Nat) (l' : List Nd) (v' : Value) (x' : Src.Wr), i ≤ p.length ∧ s5 = .slice A' l'.length c' ∧ s24 = .int .i64 (i : Int) ∧ Hid (KV wr h (.slice A' l'.length c') l') ∧ Hid (WS h wr v' x' dp) ∧ Hid (WK h w v wr v') ∧ Hid (Lim (200 + i) x') ∧ Hid (Tab B wr) ∧ Hid (Blk wr wb 25 [.int .i64 (kd : Int), sv nt, iv nz, .slice A0 L0 C0]) ∧ Hid (Blk wr (wb + 1) 82 [sv wd, sv p, nv lo, nv hi]) ∧ Hid (some wb ≠ v'.ownBlock ∧ some (wb + 1) ≠ v'.ownBlock) ∧ Hid (wParts (wNode d) (.mk (kd : Int) nt nz nl) (p.drop i) l' x' = R)) (fun _ s24 _ => p.length - (intOf s24).toNat)
  case atStart => exact ⟨0, A0, C0, nl, v3, (x.put wd), Nat.zero_le _, by rw [HL0.out], rfl, by rw [← HL0.out]; exact KK, SS, QQ, LL, TT, NN, XB, FF, HE0⟩
  case round =>
   clear HE0 KK SS QQ LL TT NN XB FF
   obtain ⟨i, A', c', l', v', x', hi1, rfl, rfl, KR, SR, QR, LR, TR, NR, XR, FR, HR⟩ := hrel
   obtain ⟨n', hn'⟩ : ∃ n, n = l'.length := ⟨_, rfl⟩
   have KR' := KR
   rw [← hn'] at KR' ⊢
   have HN' := Lh hn'
   clear hn'
   rcases Nat.lt_or_ge i p.length with hlt | hge
   ·
    have hiI : (i : Int) < (p.length : Int) := by omega
    obtain ⟨c, hc⟩ : ∃ c, p[i]? = some c := ⟨_, List.getElem?_eq_getElem hlt⟩
    have HEX := Lh (sv_one hc)
    have LN : Hid (Lim (200 + (i + 1)) (wPart (wNode d) (.mk (kd : Int) nt nz nl) c l' x').2) := Lh ((lim_part (lim_node d) (.mk (kd : Int) nt nz nl) c l' _ _ LR.out).mono (by have := HDP.out; omega))
    have HNX : Hid (∀ l2, Hid (l2 = (wPart (wNode d) (.mk (kd : Int) nt nz nl) c l' x').1 ∨ c = 73 ∨ c = 83) → Hid (wParts (wNode d) (.mk (kd : Int) nt nz nl) (p.drop (i + 1)) l2 (wPart (wNode d) (.mk (kd : Int) nt nz nl) c l' x').2 = R)) := Lh (fun l2 hl2 => Lh (by
     have hdr : p.drop i = c :: p.drop (i + 1) := by
      obtain ⟨h1, h2⟩ := List.getElem?_eq_some_iff.1 hc
      rw [List.drop_eq_getElem_cons h1, h2]
     rw [← HR.out, hdr]
     show _ = wParts (wNode d) (.mk (kd : Int) nt nz nl) (p.drop (i + 1)) (wPart (wNode d) (.mk (kd : Int) nt nz nl) c l' x').1 (wPart (wNode d) (.mk (kd : Int) nt nz nl) c l' x').2
     rcases hl2.out with h1 | h1
     ·
      rw [h1]
     ·
      refine parts_free _ _ _ _ ?_
      have := shape_free kd hkd i (by have := HP4.out; omega)
      rw [← HPE.out, hc] at this
      exact this (h1.imp (fun e => by rw [e]) (fun e => by rw [e]))))
    have hiJ : (i : Int) + 1 ≤ (p.length : Int) := by omega
    have hz1 : (0 : Int) ≤ (i : Int) + 1 := by omega
    have hz2 : (i : Int) ≤ (i : Int) + 1 := by omega
    have q1 : IntKind.i64.wrap ((i : Int) + 1) = (i : Int) + 1 := IntWalk.i64_in _ (by have := HP4.out; omega)
    have LRR := LR
    clear hc HR LR KR
    go_wp2_with fail
    refine wp_region_any (by kernel_rfl) ?_
    change wpAny _ _ _ _ _ _ _ (World.drew wr)
    have SR := Lh (SR.out.below ((Below.refl _ _).drew))
    have KR' := Lh (KR'.out.below ((Below.refl _ _).drew))
    have TR := Lh (TR.out.below ((Below.refl _ _).drew))
    have QR := Lh (QR.out.trans (WK.below ((Below.refl _ _).drew)))
    have NR := Lh (NR.out.drew); have XR := Lh (XR.out.drew)
    have HPA := Lh (wpart_any hB HWN.out SR.out TR.out LRR.out (by have := HP4.out; omega) HDP.out (kd : Int) nt nz nl HFi.out A0 L0 C0 _ l' KR'.out c)
    generalize World.drew wr = wdr at SR KR' TR QR NR XR HPA ⊢
    refine tg 0 (pt h) ?_
    refine tg 2 (.pointer (some ⟨wb + 1, 1, none⟩)) ?_
    refine tg 4 (.int .i64 (i : Int)) ?_
    refine tg 5 (.int .i64 (i : Int)) ?_
    refine tg 6 (.int .i64 ((i : Int) + 1)) ?_
    refine tg 8 (.slice A' n' c') ?_
    refine rm [1, 3] (ac (fun K hK => ?_) (ac (fun K hK => ?_) AllReady.nil))
    ·
     refine wp_load_at 25 (.tmp 3) rfl ⟨wb, 0, none⟩ rfl [.int .i64 (kd : Int), sv nt, iv nz, .slice A0 L0 C0] _ NR.out.at Tryd.underlying25 rfl size25 (hK _ _ ?_)
     clear hK K
     try simp only [zp, zn, zu, zv, zw]
     refine r1 3 (fun K hK => ?_)
     have c1 := XR.out.cell 1
     simp only [g0, gs] at c1
     go_simp
     clear c1
     try (refine hk hK ?_; clear hK K)
     refine tg 7 (.string ((⟨p.toArray⟩ : ByteArray).extract i (i + 1))) ?_
     refine r1 9 (fun K hK => ?_)
     go_simp
     rw [HEX.out]
     refine HPA.out.mono ?_
     rintro e w5 ⟨v5, l2, rfl, hk5, hl5, v6, s6, q6⟩
     obtain ⟨A5, c5, x5, rfl, _⟩ := id hk5
     have HK5 := Lh hk5
     have HL5 := Lh hl5
     have HS6 := Lh s6
     have T6 := Lh (q6.tab SR.out TR.out hB)
     have N6 := Lh (q6.blk NR.out HWh.out.1 FR.out.1)
     have X6 := Lh (q6.blk XR.out HWh.out.2 FR.out.2)
     have Q6 := Lh (QR.out.trans q6)
     clear s6 q6 hk5 hl5 HPA
     go_wp2_with fail
     try (refine hk hK ?_; clear hK K)
     refine tg 10 (.slice A5 l2.length c5) ?_
     refine wpAny_done (by kernel_rfl) ?_ _
     try simp only [zp, zn, zu, zv, zw]
     go_wp2_with fail
     go_roundw
     case rel => exact ⟨i + 1, A5, c5, l2, v6, _, by omega, rfl, by simp, HK5, HS6, Q6, LN, T6, Lh N6.out.1, Lh X6.out.1, Lh ⟨N6.out.2, X6.out.2⟩, HNX.out l2 HL5⟩
     case measure => simp only [intOf]; omega
    ·
     have c1 := XR.out.cell 1
     simp only [g0, gs] at c1
     go_simp
     clear c1
     try (refine hk hK ?_; clear hK K)
     refine tg 7 (.string ((⟨p.toArray⟩ : ByteArray).extract i (i + 1))) ?_
     refine r1 1 (fun K hK => ?_)
     refine wp_load_at 25 (.tmp 3) rfl ⟨wb, 0, none⟩ rfl [.int .i64 (kd : Int), sv nt, iv nz, .slice A0 L0 C0] _ NR.out.at Tryd.underlying25 rfl size25 (hK _ _ ?_)
     clear hK K
     try simp only [zp, zn, zu, zv, zw]
     refine r1 9 (fun K hK => ?_)
     go_simp
     rw [HEX.out]
     refine HPA.out.mono ?_
     rintro e w5 ⟨v5, l2, rfl, hk5, hl5, v6, s6, q6⟩
     obtain ⟨A5, c5, x5, rfl, _⟩ := id hk5
     have HK5 := Lh hk5
     have HL5 := Lh hl5
     have HS6 := Lh s6
     have T6 := Lh (q6.tab SR.out TR.out hB)
     have N6 := Lh (q6.blk NR.out HWh.out.1 FR.out.1)
     have X6 := Lh (q6.blk XR.out HWh.out.2 FR.out.2)
     have Q6 := Lh (QR.out.trans q6)
     clear s6 q6 hk5 hl5 HPA
     go_wp2_with fail
     try (refine hk hK ?_; clear hK K)
     refine tg 10 (.slice A5 l2.length c5) ?_
     refine wpAny_done (by kernel_rfl) ?_ _
     try simp only [zp, zn, zu, zv, zw]
     go_wp2_with fail
     go_roundw
     case rel => exact ⟨i + 1, A5, c5, l2, v6, _, by omega, rfl, by simp, HK5, HS6, Q6, LN, T6, Lh N6.out.1, Lh X6.out.1, Lh ⟨N6.out.2, X6.out.2⟩, HNX.out l2 HL5⟩
     case measure => simp only [intOf]; omega
   ·
    obtain rfl : i = p.length := by omega
    have HX := Lh (show x' = R by rw [← HR.out, List.drop_eq_nil_of_le (Nat.le_refl _)]; rfl)
    clear HR
    go_wp2_with fail
    exact bodyPost_end (v := .tuple #[]) (res_none rfl _ _) rfl ⟨rfl, v', by rw [← HX.out]; exact SR.out, QR.out⟩
end
end Go.Proofs.YtpbhgebblpdmnaaDoor
