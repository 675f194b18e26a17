/-
  The contract of node, given that of its parts.
  No condition but the lengths.
-/
import Derived.Test.YtpbhgebblpdmnaaDoorZ
import Derived.Test.YtpbhgebblpdmnaaDoorGPsPu
namespace Go.Proofs.YtpbhgebblpdmnaaDoor
open Go.RowKit Wr Src
set_option linter.unusedVariables false
set_option maxRecDepth 100000
theorem lx_count : ∀ (n : Nat) (l : Str) (i : Nat), l.length ≤ n → (LX l i).1.length ≤ l.length := by
  intro n
  induction n with
  | zero =>
    intro l i hn
    obtain rfl := List.eq_nil_of_length_eq_zero (Nat.le_zero.1 hn)
    rw [LX_nil]; exact Nat.le_refl _
  | succ n ih =>
    intro l i hn
    cases l with
    | nil => rw [LX_nil]; exact Nat.le_refl _
    | cons b u =>
      rw [List.length_cons] at hn ⊢
      by_cases hb : isBlank b = true
      · rw [LX_blank u i hb]
        have := ih u (i + 1) (by omega); omega
      · rw [lx_step b u i (by cases h : isBlank b with | true => exact absurd h hb | false => rfl)]
        by_cases h0 : tokLen (b :: u) = 0
        · rw [if_pos h0]; simp
        · rw [if_neg h0]
          have := ih ((b :: u).drop (tokLen (b :: u))) (i + tokLen (b :: u)) (by rw [List.length_drop, List.length_cons]; omega)
          rw [List.length_drop, List.length_cons] at this
          simp only [List.length_cons]; omega
theorem mu_le {B : Nat} {w : World} {g : Nat} {T : Str} {E : Nat} {s : St} (h : RS B w g T E s) : mu s ≤ 4294967295 := by
  obtain ⟨q, hq, hx⟩ := h.x
  have h1 := lx_count _ (T.drop q) q (Nat.le_refl _)
  rw [hx, List.length_drop] at h1
  have h2 := h.l
  unfold mu
  split
  · have h1 : s.toks.length ≤ T.length - q := h1
    omega
  · omega
def u0 (kd i : Nat) : Nat := if i = 0 ∧ (Src.shape kd).word = [] then 1 else 0
section
variable {B : Nat} {w : World} {g : Nat} {T : Str} {E : Nat} {s : St}
theorem shape_len : ∀ k, k < 37 → (Src.shape k).parts.length ≤ 4 := by decide
set_option maxHeartbeats 8000000 in
theorem node_walk (h : RS B w g T E s) (kd : Nat) (hkd : kd < 37) (hne : (Src.shape kd).word ≠ [] ∨ (Src.shape kd).parts ≠ [])
    (HPt : Hid (∀ i c, (Src.shape kd).parts[i]? = some c → ∀ W s1 m nb, RS B W g T E s1 → PN W nb m → g < nb → m.kids.length + mu s1 ≤ 8589934590 → mu s1 ≤ mu s - (1 - u0 kd i) →
      Calls Tryd.prog 52 #[pt g, pt nb, SV (Src.shape kd).word (Src.shape kd).parts (Src.shape kd).low (Src.shape kd).high, nv i] W (PtOut B W g T E nb kd c m s1 (u0 kd i)))) :
    Calls Tryd.prog 39 #[pt g, nv kd] w (RdOut B w g T E (fun n s' => Ev (fun k => Src.node k kd s) (n, s') ∧ mu s' ≤ mu s - 1)) := by
  have hmu := mu_le h
  obtain ⟨bs, os, cs, bg, og, cg, ht⟩ := h.t
  have HT := Lh ht
  have hbs := ht.cs1
  have HG := Lh h.lt
  obtain ⟨wb, hwb⟩ : ∃ wb, wb = w.heap.size := ⟨_, rfl⟩
  have HWB := Lh hwb
  have HWb := Lh hwb.symm
  have hG' : Hid (g < wb) := Lh (by rw [hwb]; exact h.lt)
  have z1 := zero25
  have z2 := zero82
  have hkI : (kd : Int) < 37 := by omega
  obtain ⟨p, hp⟩ : ∃ p, p = (Src.shape kd).parts := ⟨_, rfl⟩
  obtain ⟨wd, hwd⟩ : ∃ p, p = (Src.shape kd).word := ⟨_, rfl⟩
  obtain ⟨lo, hlo⟩ : ∃ p, p = (Src.shape kd).low := ⟨_, rfl⟩
  obtain ⟨hi, hhi⟩ : ∃ p, p = (Src.shape kd).high := ⟨_, rfl⟩
  have HP4 := Lh (show p.length ≤ 4 by rw [hp]; exact shape_len kd hkd)
  have HPE := Lh hp; have HWD := Lh hwd
  -- the boxes: the result, the node, the shape
  obtain ⟨w0, hw0⟩ : ∃ w0, w0 = w.alloc (.cells #[.int .i64 0, .string ⟨#[]⟩, .int .i64 0, .slice none 0 0] 25) := ⟨_, rfl⟩
  obtain ⟨w1, hw1⟩ : ∃ w1, w1 = w0.alloc (.cells #[.int .i64 (kd : Int), .string ⟨#[]⟩, .int .i64 0, .slice none 0 0] 25) := ⟨_, rfl⟩
  obtain ⟨w2, hw2⟩ : ∃ w2, w2 = w1.alloc (.cells #[sv wd, sv p, nv lo, nv hi] 82) := ⟨_, rfl⟩
  have s0 : w0.heap.size = wb + 1 := by rw [hw0, hwb]; simp
  have s1 : w1.heap.size = wb + 2 := by rw [hw1]; simp [s0]
  have s2 : w2.heap.size = wb + 3 := by rw [hw2]; simp [s1]
  have l0 : Below w.heap.size w w0 := by rw [hw0]; exact (Below.refl _ _).alloc (Nat.le_refl _) _
  have l1 : Below w0.heap.size w0 w1 := by rw [hw1]; exact (Below.refl _ _).alloc (Nat.le_refl _) _
  have l2 : Below w1.heap.size w1 w2 := by rw [hw2]; exact (Below.refl _ _).alloc (Nat.le_refl _) _
  have zb : Blk w0 wb 25 [.int .i64 0, .string ⟨#[]⟩, .int .i64 0, .slice none 0 0] := by rw [hw0, hwb]; exact Blk.new w _ _
  have nb1 : Blk w1 (wb + 1) 25 [.int .i64 (kd : Int), .string ⟨#[]⟩, .int .i64 0, .slice none 0 0] := by rw [hw1, ← s0]; exact Blk.new w0 _ _
  have xb : Blk w2 (wb + 2) 82 [sv wd, sv p, nv lo, nv hi] := by rw [hw2, ← s1]; exact Blk.new w1 _ _
  have L2 := Lh (below_step (below_step l0 l1) l2)
  have Zb := Lh ((zb.below l1 zb.lt).below l2 (by rw [s1]; omega))
  have Nb := Lh (nb1.below l2 nb1.lt)
  have Xb := Lh xb
  have R2 := Lh (h.below L2.out)
  have W0 := Lh hw0; have W1 := Lh hw1; have W2 := Lh hw2
  have S0 := Lh s0; have S1 := Lh s1; have S2 := Lh s2
  have v1 := (ht.below (below_step l0 l1)).v1
  obtain ⟨c1, c2, c3, c4⟩ := (ht.below (below_step l0 l1)).sh kd hkd
  rw [← hwd] at c1
  rw [← hp] at c2
  rw [← hlo] at c3
  rw [← hhi] at c4
  rw [← hp, ← hwd, ← hlo, ← hhi] at HPt
  have hpz : (⟨p.toArray⟩ : ByteArray).size = p.length := rfl
  have hwz : (wd == []) = decide (wd = []) := by rw [Bool.eq_iff_iff, beq_iff_eq, decide_eq_true_iff]
  have HNE := Lh hne
  have HMU := Lh hmu
  clear h ht hwb hne hmu hp hwd hlo hhi hw0 hw1 hw2 s0 s1 s2 l0 l1 l2 zb nb1 xb HT
  go_enter Tryd.func39, Tryd.ntmps39
  go_upto_region 1 with fail
  rw [← W0.out, HWb.out]
  go_upto_region 2 with fail
  rw [← W1.out, S0.out]
  go_upto_region 3 with fail
  rw [← W2.out, S1.out]
  obtain ⟨x0, x1, x2, x3⟩ : w2.cell? ⟨wb + 2, 0, none⟩ = some (sv wd) ∧ w2.cell? ⟨wb + 2, 1, none⟩ = some (sv p) ∧ w2.cell? ⟨wb + 2, 2, none⟩ = some (nv lo) ∧ w2.cell? ⟨wb + 2, 3, none⟩ = some (nv hi) := ⟨Xb.out.cell 0, Xb.out.cell 1, Xb.out.cell 2, Xb.out.cell 3⟩
  have hpI : (p.length : Int) ≤ 4 := by have := HP4.out; omega
  clear v1 c1 c2 c3 c4
  have KN := Lh (KR.nil w2 (wb + 1))
  have FN := Lh (show Fine (kd : Int) [] 0 from fine_small (by omega) (by omega) (by omega) (by omega) (by simp))
  by_cases hw : wd = []
  · have HE0 : Hid (∀ v, Ev (fun k => Src.parts k kd (p.drop 0) (.mk (kd : Int) [] 0 []) s) v → Ev (fun k => Src.node k kd s) v) := Lh (fun v hv => ev_node (by rw [if_pos (HWD.out.symm.trans hw), ← HPE.out]; exact hv))
    have RR := R2; have ZR := Zb; have XR := Xb
    have PN0 : Hid (PN w2 (wb + 1) (.mk (kd : Int) [] 0 [])) := Lh ⟨_, _, Nb.out, KN.out, FN.out⟩
    have KR0 : Hid (Kp (fun k => k = g) w w2) := Lh (Kp.of_below' L2.out)
    have MU0 : Hid (mu s ≤ mu s - (1 - u0 kd 0)) := Lh (by
      have : u0 kd 0 = 1 := if_pos ⟨rfl, HWD.out.symm.trans hw⟩
      rw [this]; omega)
    have hwq : (wd == []) = true := by rw [hwz, decide_eq_true hw]
    have hwq2 : wd.isEmpty = true := by rw [hw]; rfl
    have hwq3 : (wd != []) = false := by rw [bne, hwq]; rfl
    clear hwz hw R2 Zb Nb L2 KN FN
    go_wp2_with fail
    clear x0 x1 x2 x3 Xb
    go_loopw [24] (fun s24 wr => ∃ (i : Nat) (m' : Nd) (s' : St), i ≤ p.length ∧ s24 = .int .i64 (i : Int) ∧ Hid (∀ v, Ev (fun k => Src.parts k kd (p.drop i) m' s') v → Ev (fun k => Src.node k kd s) v) ∧ Hid (RS B wr g T E s') ∧ Hid (PN wr (wb + 1) m') ∧ Hid (Blk wr wb 25 [.int .i64 0, .string ⟨#[]⟩, .int .i64 0, .slice none 0 0]) ∧ Hid (Blk wr (wb + 2) 82 [sv wd, sv p, nv lo, nv hi]) ∧ Hid (Kp (fun k => k = g) w wr) ∧ Hid (mu s' ≤ mu s - (1 - u0 kd i)) ∧ Hid (m'.kids.length + mu s' ≤ mu s + i)) (fun s24 _ => p.length - (intOf s24).toNat)
    case atStart => exact ⟨0, .mk (kd : Int) [] 0 [], s, Nat.zero_le _, rfl, HE0, RR, PN0, ZR, XR, KR0, MU0, Lh (by have := MU0.out; show 0 + mu _ ≤ mu s + 0; omega)⟩
    case round =>
      clear HE0 RR PN0 ZR XR KR0 MU0
      obtain ⟨i, m', s', hi1, rfl, HE, R3, N3, Z3, X3, K3, M3, C3⟩ := hrel
      rcases Nat.lt_or_ge i p.length with hlt | hge
      · have hiI : (i : Int) < (p.length : Int) := by omega
        obtain ⟨c, hc⟩ : ∃ c, p[i]? = some c := ⟨_, List.getElem?_eq_getElem hlt⟩
        have HC := Lh (HPt.out i c hc _ s' m' (wb + 1) R3.out N3.out (by have := hG'.out; omega) (by have h1 := C3.out; have h2 := HMU.out; have h3 := HP4.out; omega) M3.out)
        have HDr := Lh (show p.drop i = c :: p.drop (i + 1) by
          obtain ⟨h1, h2⟩ := List.getElem?_eq_some_iff.1 hc
          rw [List.drop_eq_getElem_cons h1, h2])
        clear hc
        go_wp2_with (first | (with_reducible refine wpList_load_cells rfl 82 4 size82 (.tmp 6) rfl ⟨wb + 2, 0, none⟩ rfl [sv wd, sv p, nv lo, nv hi] rfl _ Tryd.underlying82 rfl X3.out.at ?_))
        refine HC.out.mono ?_
        rintro e w5 ⟨m2, s2, rfl, f1, f2, f3, f4, f5, f6⟩
        have Z5 := Lh (f4.blk Z3.out (by have := hG'.out; omega))
        have X5 := Lh (f4.blk X3.out (by have := hG'.out; omega))
        have K5 := Lh (K3.out.trans f4 (fun k hk e => by have := HWB.out; omega))
        have E5 : Hid (∀ v, Ev (fun k => Src.parts k kd (p.drop (i + 1)) m2 s2) v → Ev (fun k => Src.node k kd s) v) := Lh (fun v hv => HE.out v (by rw [HDr.out]; exact parts_step f1 hv))
        have R5 := Lh f2; have N5 := Lh f3
        have M5 := Lh (show mu s2 ≤ mu s - (1 - u0 kd (i + 1)) by
          have h1 := M3.out
          have h2 : u0 kd (i + 1) = 0 := if_neg (fun h => by omega)
          have h3 : u0 kd i ≤ 1 := by unfold u0; split <;> omega
          rw [h2]; omega)
        have C5 := Lh (show m2.kids.length + mu s2 ≤ mu s + (i + 1) by have h1 := C3.out; omega)
        clear f1 f2 f3 f4 f5 f6 HC HE R3 N3 Z3 X3 K3 M3 C3 HDr
        go_wp2_with fail
        go_roundw
        case rel => exact ⟨i + 1, m2, s2, by omega, by simp, E5, R5, N5, Z5, X5, K5, M5, C5⟩
        case measure => simp only [intOf]; omega
      · obtain rfl : i = p.length := by omega
        obtain ⟨v, xs, hb, hk, hf⟩ := N3.out
        obtain ⟨mk, mt, mz, ml⟩ := m'
        dsimp only [Nd.kind, Nd.text, Nd.num, Nd.kids] at hb hk hf
        obtain ⟨A, c, hv, _⟩ := hk.form
        subst hv
        have HB := Lh hb; have HK := Lh hk; have HF := Lh hf
        have HEv := Lh (HE.out (.mk mk mt mz ml, s') (by rw [List.drop_eq_nil_of_le (Nat.le_refl _)]; exact ev_nil))
        have HM := Lh (show mu s' ≤ mu s - 1 by
          have h1 := M3.out
          have h2 : u0 kd p.length = 0 := if_neg (fun h => by
            obtain ⟨h3, h4⟩ := h
            rcases HNE.out with h5 | h5
            · exact h5 h4
            · exact h5 (by rw [← HPE.out]; exact List.eq_nil_of_length_eq_zero h3))
          rw [h2] at h1; omega)
        clear hb hk hf HE M3 C3 N3
        go_wp2_with (first
          | (with_reducible refine wpList_load_cells rfl 25 4 size25 (.tmp 5) rfl ⟨wb + 1, 0, none⟩ rfl (NC mk mt mz (.slice A ml.length c)) rfl _ Tryd.underlying25 rfl HB.out.at ?_)
          | (with_reducible refine wpList_store_blk rfl 25 4 size25 (.tmp 4) (.tmp 32) rfl wb (NC mk mt mz (.slice A ml.length c)) rfl rfl _ Z3.out rfl rfl rfl ?_; intro w8 hb8 hk8))
        refine bodyPost_ret (v := .agg (NC mk mt mz (.slice A ml.length c)).toArray) (box_res 4 size25 rfl _ _ wb _ _ rfl hb8 rfl Tryd.underlying25 rfl) rfl ⟨.mk mk mt mz ml, s', _, rfl, ⟨HEv.out, HM.out⟩, R3.out.kp hk8 (by have := hG'.out; omega) (fun k hk => by have := R3.out.hg; have := hG'.out; omega), ?_, K3.out.trans hk8 (fun k hk e => by have := HWB.out; omega)⟩
        have hn := hk8.nv (HK.out.nv HF.out) (fun k hk _ e => by omega)
        exact NV.keep (fun k h1 h2 => ⟨rfl, by have := HWB.out; omega⟩) _ _ hn
  · have HX := Lh (expect_any R2.out hw)
    have hwq : (wd == []) = false := by rw [hwz, decide_eq_false hw]
    have hwq2 : wd.isEmpty = false := by cases wd with | nil => exact absurd rfl hw | cons a b => rfl
    have hwq3 : (wd != []) = true := by rw [bne, hwq]; rfl
    have HWn := Lh hw
    clear hwz hw
    go_wp2_with fail
    refine HX.out.mono ?_
    rintro e w3 ⟨rfl, h3, k3⟩
    have HE0 : Hid (∀ v, Ev (fun k => Src.parts k kd (p.drop 0) (.mk (kd : Int) [] 0 []) (s.expect wd)) v → Ev (fun k => Src.node k kd s) v) := Lh (fun v hv => ev_node (by rw [if_neg (by rw [← HWD.out]; exact HWn.out), ← HPE.out, ← HWD.out]; exact hv))
    have RR := Lh h3
    have ZR := Lh (k3.blk Zb.out (by have := hG'.out; omega))
    have XR := Lh (k3.blk Xb.out (by have := hG'.out; omega))
    have NR := Lh (k3.blk Nb.out (by have := hG'.out; omega))
    have PN0 : Hid (PN w3 (wb + 1) (.mk (kd : Int) [] 0 [])) := Lh ⟨_, _, NR.out, KN.out.kp k3 (fun j e => by have := hG'.out; omega), FN.out⟩
    have KR0 : Hid (Kp (fun k => k = g) w w3) := Lh ((Kp.of_below' (Z := fun _ => False) L2.out).mono (fun _ _ h => h.elim) |>.trans k3 (fun _ _ h => h))
    have MU0 : Hid (mu (s.expect wd) ≤ mu s - (1 - u0 kd 0)) := Lh (by
      have : u0 kd 0 = 0 := if_neg (fun h => HWn.out (HWD.out.trans h.2))
      rw [this]; exact mu_expect s HWn.out)
    obtain ⟨y0, y1, y2, y3⟩ : w3.cell? ⟨wb + 2, 0, none⟩ = some (sv wd) ∧ w3.cell? ⟨wb + 2, 1, none⟩ = some (sv p) ∧ w3.cell? ⟨wb + 2, 2, none⟩ = some (nv lo) ∧ w3.cell? ⟨wb + 2, 3, none⟩ = some (nv hi) := ⟨XR.out.cell 0, XR.out.cell 1, XR.out.cell 2, XR.out.cell 3⟩
    clear h3 k3 x0 x1 x2 x3 R2 Zb Nb L2 KN FN NR Xb HX
    go_wp2_with fail
    clear y0 y1 y2 y3
    go_loopw [24] (fun s24 wr => ∃ (i : Nat) (m' : Nd) (s' : St), i ≤ p.length ∧ s24 = .int .i64 (i : Int) ∧ Hid (∀ v, Ev (fun k => Src.parts k kd (p.drop i) m' s') v → Ev (fun k => Src.node k kd s) v) ∧ Hid (RS B wr g T E s') ∧ Hid (PN wr (wb + 1) m') ∧ Hid (Blk wr wb 25 [.int .i64 0, .string ⟨#[]⟩, .int .i64 0, .slice none 0 0]) ∧ Hid (Blk wr (wb + 2) 82 [sv wd, sv p, nv lo, nv hi]) ∧ Hid (Kp (fun k => k = g) w wr) ∧ Hid (mu s' ≤ mu s - (1 - u0 kd i)) ∧ Hid (m'.kids.length + mu s' ≤ mu s + i)) (fun s24 _ => p.length - (intOf s24).toNat)
    case atStart => exact ⟨0, .mk (kd : Int) [] 0 [], s.expect wd, Nat.zero_le _, rfl, HE0, RR, PN0, ZR, XR, KR0, MU0, Lh (by have := MU0.out; show 0 + mu _ ≤ mu s + 0; omega)⟩
    case round =>
      clear HE0 RR PN0 ZR XR KR0 MU0
      obtain ⟨i, m', s', hi1, rfl, HE, R3, N3, Z3, X3, K3, M3, C3⟩ := hrel
      rcases Nat.lt_or_ge i p.length with hlt | hge
      · have hiI : (i : Int) < (p.length : Int) := by omega
        obtain ⟨c, hc⟩ : ∃ c, p[i]? = some c := ⟨_, List.getElem?_eq_getElem hlt⟩
        have HC := Lh (HPt.out i c hc _ s' m' (wb + 1) R3.out N3.out (by have := hG'.out; omega) (by have h1 := C3.out; have h2 := HMU.out; have h3 := HP4.out; omega) M3.out)
        have HDr := Lh (show p.drop i = c :: p.drop (i + 1) by
          obtain ⟨h1, h2⟩ := List.getElem?_eq_some_iff.1 hc
          rw [List.drop_eq_getElem_cons h1, h2])
        clear hc
        go_wp2_with (first | (with_reducible refine wpList_load_cells rfl 82 4 size82 (.tmp 6) rfl ⟨wb + 2, 0, none⟩ rfl [sv wd, sv p, nv lo, nv hi] rfl _ Tryd.underlying82 rfl X3.out.at ?_))
        refine HC.out.mono ?_
        rintro e w5 ⟨m2, s2, rfl, f1, f2, f3, f4, f5, f6⟩
        have Z5 := Lh (f4.blk Z3.out (by have := hG'.out; omega))
        have X5 := Lh (f4.blk X3.out (by have := hG'.out; omega))
        have K5 := Lh (K3.out.trans f4 (fun k hk e => by have := HWB.out; omega))
        have E5 : Hid (∀ v, Ev (fun k => Src.parts k kd (p.drop (i + 1)) m2 s2) v → Ev (fun k => Src.node k kd s) v) := Lh (fun v hv => HE.out v (by rw [HDr.out]; exact parts_step f1 hv))
        have R5 := Lh f2; have N5 := Lh f3
        have M5 := Lh (show mu s2 ≤ mu s - (1 - u0 kd (i + 1)) by
          have h1 := M3.out
          have h2 : u0 kd (i + 1) = 0 := if_neg (fun h => by omega)
          have h3 : u0 kd i ≤ 1 := by unfold u0; split <;> omega
          rw [h2]; omega)
        have C5 := Lh (show m2.kids.length + mu s2 ≤ mu s + (i + 1) by have h1 := C3.out; omega)
        clear f1 f2 f3 f4 f5 f6 HC HE R3 N3 Z3 X3 K3 M3 C3 HDr
        go_wp2_with fail
        go_roundw
        case rel => exact ⟨i + 1, m2, s2, by omega, by simp, E5, R5, N5, Z5, X5, K5, M5, C5⟩
        case measure => simp only [intOf]; omega
      · obtain rfl : i = p.length := by omega
        obtain ⟨v, xs, hb, hk, hf⟩ := N3.out
        obtain ⟨mk, mt, mz, ml⟩ := m'
        dsimp only [Nd.kind, Nd.text, Nd.num, Nd.kids] at hb hk hf
        obtain ⟨A, c, hv, _⟩ := hk.form
        subst hv
        have HB := Lh hb; have HK := Lh hk; have HF := Lh hf
        have HEv := Lh (HE.out (.mk mk mt mz ml, s') (by rw [List.drop_eq_nil_of_le (Nat.le_refl _)]; exact ev_nil))
        have HM := Lh (show mu s' ≤ mu s - 1 by
          have h1 := M3.out
          have h2 : u0 kd p.length = 0 := if_neg (fun h => by
            obtain ⟨h3, h4⟩ := h
            rcases HNE.out with h5 | h5
            · exact h5 h4
            · exact h5 (by rw [← HPE.out]; exact List.eq_nil_of_length_eq_zero h3))
          rw [h2] at h1; omega)
        clear hb hk hf HE M3 C3 N3
        go_wp2_with (first
          | (with_reducible refine wpList_load_cells rfl 25 4 size25 (.tmp 5) rfl ⟨wb + 1, 0, none⟩ rfl (NC mk mt mz (.slice A ml.length c)) rfl _ Tryd.underlying25 rfl HB.out.at ?_)
          | (with_reducible refine wpList_store_blk rfl 25 4 size25 (.tmp 4) (.tmp 32) rfl wb (NC mk mt mz (.slice A ml.length c)) rfl rfl _ Z3.out rfl rfl rfl ?_; intro w8 hb8 hk8))
        refine bodyPost_ret (v := .agg (NC mk mt mz (.slice A ml.length c)).toArray) (box_res 4 size25 rfl _ _ wb _ _ rfl hb8 rfl Tryd.underlying25 rfl) rfl ⟨.mk mk mt mz ml, s', _, rfl, ⟨HEv.out, HM.out⟩, R3.out.kp hk8 (by have := hG'.out; omega) (fun k hk => by have := R3.out.hg; have := hG'.out; omega), ?_, K3.out.trans hk8 (fun k hk e => by have := HWB.out; omega)⟩
        have hn := hk8.nv (HK.out.nv HF.out) (fun k hk _ e => by omega)
        exact NV.keep (fun k h1 h2 => ⟨rfl, by have := HWB.out; omega⟩) _ _ hn
end
end Go.Proofs.YtpbhgebblpdmnaaDoor
