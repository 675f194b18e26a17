/-
  Contracts and words of several parts of the program (Wl, Wx), one after the other.
  Conditions: those that each says.
-/
import Derived.Test.YtpbhgebblpdmnaaDoorZ
import Derived.Test.YtpbhgebblpdmnaaDoorGWfWaWbWc
namespace Go.Proofs.YtpbhgebblpdmnaaDoor
open Go.RowKit Wr Src
set_option linter.unusedVariables false
set_option maxRecDepth 100000
section
variable {B h d dp s : Nat} {w : World} {v : Value} {x : Src.Wr}
def lenOf (v : Value) : Nat := match v with | .slice _ n _ => n | _ => 0
theorem wkids_bad {f : Nd → Src.Wr → Src.Wr} {l : List Nd} {x : Src.Wr} (h : x.bad = true) : wKids f l x = x := by cases l with | nil => rfl | cons y t => exact if_pos h
theorem wkids_one {f : Nd → Src.Wr → Src.Wr} {l : List Nd} {x : Src.Wr} (hl : l ≠ []) (h : x.bad = false) : wKids f l x = wKids f l.tail (wFirst f l x) := by cases l with | nil => exact absurd rfl hl | cons y t => exact if_neg (by rw [h]; simp)
set_option maxHeartbeats 4000000 in
theorem wpart_I (hn : WNodeC B h d) (hs : WS h w v x dp) (ht : Tab B w) (hl : Lim s x) (hs3 : s ≤ 250) (hd : dp + d = 24) (nk : Int) (nt : Str) (nz : Int) (nl : List Nd) (hf : Fine nk nt nz) (A0 : Option Addr) (L0 C0 : Nat) (kv : Value) (l : List Nd) (hk : KV w h kv l) (hB : B ≤ h) :
  Calls Tryd.prog 55 #[pt h, .agg #[iv nk, sv nt, iv nz, .slice A0 L0 C0], .string ⟨#[73]⟩, kv] w (WPart h w v dp 73 (wPart (wNode d) (.mk nk nt nz nl) 73 l x)) := by
 have ht1 := hf.t1
 have hz0 := hf.z0; have hz1 := hf.z1
 obtain ⟨wb, hwb⟩ : ∃ wb, wb = w.heap.size := ⟨_, rfl⟩
 have HWB := Lh hwb
 have HWb := Lh hwb.symm
 obtain ⟨w0, hw0⟩ : ∃ w0, w0 = w.alloc (.cells #[.int .i64 nk, .string ⟨nt.toArray⟩, .int .i64 nz, .slice A0 L0 C0] 25) := ⟨_, rfl⟩
 have l0 : Below w.heap.size w w0 := by rw [hw0]; exact (Below.refl _ _).alloc (Nat.le_refl _) _
 have Z0 := Lh (show Blk w0 wb 25 [iv nk, sv nt, iv nz, .slice A0 L0 C0] by rw [hw0, hwb]; exact Blk.new w _ _)
 have L0' := Lh l0
 have S0 := Lh (hs.below l0)
 have T0 := Lh (ht.below l0)
 have K0 := Lh (hk.below l0)
 have LM := Lh hl
 have HWN := Lh hn
 have HDP := Lh hd
 have W0 := Lh hw0
 have HE2 : Hid (∀ w', WOut h w v (wKids (wNode d) l x) dp w' → WOut h w v (wPart (wNode d) (.mk nk nt nz nl) 73 l x).2 dp w') := Lh (fun _ h => h)
 have HLim : Hid (max s (8 * d) ≤ 250 + 192) := Lh (by omega)
 have LM0 := Lh (hl.mono (Nat.le_max_left s (8 * d)))
 have QK0 := Lh (WK.refl h w0 v)
 have hx : (⟨#[73]⟩ : ByteArray)[0]'(show 0 < 1 by omega) = 73 := rfl
 obtain ⟨KA, kc, kxs, hkv, k1, k2, k3, _⟩ := hk
 subst hkv
 clear hs ht hl hn hd hw0 hwb l0 hf
 go_enter Tryd.func55, Tryd.ntmps55
 go_upto_region 1 with fail
 rw [← W0.out, HWb.out]
 have c0 := Z0.out.cell 0; have c1 := Z0.out.cell 1; have c2 := Z0.out.cell 2; have c3 := Z0.out.cell 3
 simp only [g0, gs] at c0 c1 c2 c3
 go_wp2_with fail
 clear c0 c1 c2 c3
 go_loopw [3] (fun s3 wr => ∃ (A' : Option Addr) (c' : Nat) (l' : List Nd) (v' : Value) (x' : Src.Wr), s3 = .slice A' l'.length c' ∧ Hid (KV wr h (.slice A' l'.length c') l') ∧ Hid (WS h wr v' x' dp) ∧ Hid (WK h w0 v wr v') ∧ Hid (Lim (max s (8 * d)) x') ∧ Hid (Tab B wr) ∧ Hid (wKids (wNode d) l x = wKids (wNode d) l' x')) (fun s3 _ => lenOf s3)
 case atStart => exact ⟨KA, kc, l, v, x, rfl, K0, S0, QK0, LM0, T0, Lh rfl⟩
 case round =>
  clear K0 QK0 LM0
  obtain ⟨A', c', l', v', x', rfl, KR, SR, QR, LR, TR, HR⟩ := hrel
  obtain ⟨n', hn'⟩ : ∃ n, n = l'.length := ⟨_, rfl⟩
  have HN := Lh hn'
  have KR' := KR
  rw [← hn'] at KR' ⊢
  clear hn'
  have cb := SR.out.b.cell 2
  simp only [g0, gs] at cb
  by_cases h0 : n' = 0
  ·
   have hl0 : l' = [] := List.eq_nil_of_length_eq_zero (HN.out.symm.trans h0)
   have HX := Lh (show wKids (wNode d) l x = x' by rw [HR.out, hl0]; rfl)
   clear hl0 HR
   go_wp2_with fail
   exact bodyPost_ret (v := .slice A' n' c') (by simp [results]) rfl ⟨_, l', rfl, KR'.out, Or.inr (Or.inl rfl), HE2.out _ ⟨v', by rw [HX.out]; exact SR.out, (WK.below L0'.out).trans QR.out⟩⟩
  ·
   have hnI : (0 : Int) < (n' : Int) := by omega
   have hne : l' ≠ [] := by intro e; have := HN.out; rw [e] at this; exact h0 this
   by_cases hb : x'.bad = true
   ·
    have HX := Lh (show wKids (wNode d) l x = x' by rw [HR.out]; exact wkids_bad hb)
    rw [hb] at cb
    clear hb HR hne h0
    go_wp2_with fail
    exact bodyPost_ret (v := .slice A' n' c') (by simp [results]) rfl ⟨_, l', rfl, KR'.out, Or.inr (Or.inl rfl), HE2.out _ ⟨v', by rw [HX.out]; exact SR.out, (WK.below L0'.out).trans QR.out⟩⟩
   ·
    have hb' : x'.bad = false := by simpa using hb
    have HX := Lh (show wKids (wNode d) l x = wKids (wNode d) l'.tail (wFirst (wNode d) l' x') by rw [HR.out]; exact wkids_one hne hb')
    have HF := Lh (first_walk HWN.out SR.out TR.out (LR.out.ok hb') (by omega) HDP.out _ l' KR'.out)
    have LF := Lh (show Lim (max s (8 * d)) (wFirst (wNode d) l' x') by
     have h1 := LR.out.ok hb'
     cases l' with
     | nil => exact absurd rfl hne
     | cons y t => exact (lim_node d y 0 x' h1).mono (by omega))
    have HLt := Lh (show l'.tail.length < n' by rw [List.length_tail]; have := HN.out; omega)
    rw [hb'] at cb
    clear hb hb' HR hne h0
    go_wp2_with fail
    refine HF.out.mono ?_
    rintro e w5 ⟨v5, rfl, hk5, ho5⟩
    obtain ⟨A5, c5, x5, rfl, _⟩ := id hk5
    obtain ⟨v6, s6, q6⟩ := ho5
    have HK := Lh hk5
    have HS6 := Lh s6
    have T6 := Lh (q6.tab SR.out TR.out hB)
    have Q6 := Lh (QR.out.trans q6)
    clear s6 q6 hk5 cb hnI
    go_wp2_with fail
    go_roundw
    case rel => exact ⟨A5, c5, l'.tail, v6, _, by rw [List.length_tail], HK, HS6, Q6, LF, T6, HX⟩
    case measure =>
     have := HLt.out
     rw [List.length_tail] at this
     exact this
set_option maxHeartbeats 4000000 in
theorem wpart_S (hn : WNodeC B h d) (hs : WS h w v x dp) (ht : Tab B w) (hl : Lim s x) (hs3 : s ≤ 250) (hd : dp + d = 24) (nk : Int) (nt : Str) (nz : Int) (nl : List Nd) (hf : Fine nk nt nz) (A0 : Option Addr) (L0 C0 : Nat) (kv : Value) (l : List Nd) (hk : KV w h kv l) (hB : B ≤ h) :
  Calls Tryd.prog 55 #[pt h, .agg #[iv nk, sv nt, iv nz, .slice A0 L0 C0], .string ⟨#[83]⟩, kv] w (WPart h w v dp 83 (wPart (wNode d) (.mk nk nt nz nl) 83 l x)) := by
 have ht1 := hf.t1
 have hz0 := hf.z0; have hz1 := hf.z1
 obtain ⟨wb, hwb⟩ : ∃ wb, wb = w.heap.size := ⟨_, rfl⟩
 have HWB := Lh hwb
 have HWb := Lh hwb.symm
 obtain ⟨w0, hw0⟩ : ∃ w0, w0 = w.alloc (.cells #[.int .i64 nk, .string ⟨nt.toArray⟩, .int .i64 nz, .slice A0 L0 C0] 25) := ⟨_, rfl⟩
 have l0 : Below w.heap.size w w0 := by rw [hw0]; exact (Below.refl _ _).alloc (Nat.le_refl _) _
 have Z0 := Lh (show Blk w0 wb 25 [iv nk, sv nt, iv nz, .slice A0 L0 C0] by rw [hw0, hwb]; exact Blk.new w _ _)
 have L0' := Lh l0
 have S0 := Lh (hs.below l0)
 have T0 := Lh (ht.below l0)
 have K0 := Lh (hk.below l0)
 have LM := Lh hl
 have HWN := Lh hn
 have HDP := Lh hd
 have W0 := Lh hw0
 have HE2 : Hid (∀ w', WOut h w v (wKids (wNode d) l x) dp w' → WOut h w v (wPart (wNode d) (.mk nk nt nz nl) 83 l x).2 dp w') := Lh (fun _ h => h)
 have HLim : Hid (max s (8 * d) ≤ 250 + 192) := Lh (by omega)
 have LM0 := Lh (hl.mono (Nat.le_max_left s (8 * d)))
 have QK0 := Lh (WK.refl h w0 v)
 have hx : (⟨#[83]⟩ : ByteArray)[0]'(show 0 < 1 by omega) = 83 := rfl
 obtain ⟨KA, kc, kxs, hkv, k1, k2, k3, _⟩ := hk
 subst hkv
 clear hs ht hl hn hd hw0 hwb l0 hf
 go_enter Tryd.func55, Tryd.ntmps55
 go_upto_region 1 with fail
 rw [← W0.out, HWb.out]
 have c0 := Z0.out.cell 0; have c1 := Z0.out.cell 1; have c2 := Z0.out.cell 2; have c3 := Z0.out.cell 3
 simp only [g0, gs] at c0 c1 c2 c3
 go_wp2_with fail
 clear c0 c1 c2 c3
 go_loopw [3] (fun s3 wr => ∃ (A' : Option Addr) (c' : Nat) (l' : List Nd) (v' : Value) (x' : Src.Wr), s3 = .slice A' l'.length c' ∧ Hid (KV wr h (.slice A' l'.length c') l') ∧ Hid (WS h wr v' x' dp) ∧ Hid (WK h w0 v wr v') ∧ Hid (Lim (max s (8 * d)) x') ∧ Hid (Tab B wr) ∧ Hid (wKids (wNode d) l x = wKids (wNode d) l' x')) (fun s3 _ => lenOf s3)
 case atStart => exact ⟨KA, kc, l, v, x, rfl, K0, S0, QK0, LM0, T0, Lh rfl⟩
 case round =>
  clear K0 QK0 LM0
  obtain ⟨A', c', l', v', x', rfl, KR, SR, QR, LR, TR, HR⟩ := hrel
  obtain ⟨n', hn'⟩ : ∃ n, n = l'.length := ⟨_, rfl⟩
  have HN := Lh hn'
  have KR' := KR
  rw [← hn'] at KR' ⊢
  clear hn'
  have cb := SR.out.b.cell 2
  simp only [g0, gs] at cb
  by_cases h0 : n' = 0
  ·
   have hl0 : l' = [] := List.eq_nil_of_length_eq_zero (HN.out.symm.trans h0)
   have HX := Lh (show wKids (wNode d) l x = x' by rw [HR.out, hl0]; rfl)
   clear hl0 HR
   go_wp2_with fail
   exact bodyPost_ret (v := .slice A' n' c') (by simp [results]) rfl ⟨_, l', rfl, KR'.out, Or.inr (Or.inr rfl), HE2.out _ ⟨v', by rw [HX.out]; exact SR.out, (WK.below L0'.out).trans QR.out⟩⟩
  ·
   have hnI : (0 : Int) < (n' : Int) := by omega
   have hne : l' ≠ [] := by intro e; have := HN.out; rw [e] at this; exact h0 this
   by_cases hb : x'.bad = true
   ·
    have HX := Lh (show wKids (wNode d) l x = x' by rw [HR.out]; exact wkids_bad hb)
    rw [hb] at cb
    clear hb HR hne h0
    go_wp2_with fail
    exact bodyPost_ret (v := .slice A' n' c') (by simp [results]) rfl ⟨_, l', rfl, KR'.out, Or.inr (Or.inr rfl), HE2.out _ ⟨v', by rw [HX.out]; exact SR.out, (WK.below L0'.out).trans QR.out⟩⟩
   ·
    have hb' : x'.bad = false := by simpa using hb
    have HX := Lh (show wKids (wNode d) l x = wKids (wNode d) l'.tail (wFirst (wNode d) l' x') by rw [HR.out]; exact wkids_one hne hb')
    have HF := Lh (first_walk HWN.out SR.out TR.out (LR.out.ok hb') (by omega) HDP.out _ l' KR'.out)
    have LF := Lh (show Lim (max s (8 * d)) (wFirst (wNode d) l' x') by
     have h1 := LR.out.ok hb'
     cases l' with
     | nil => exact absurd rfl hne
     | cons y t => exact (lim_node d y 0 x' h1).mono (by omega))
    have HLt := Lh (show l'.tail.length < n' by rw [List.length_tail]; have := HN.out; omega)
    rw [hb'] at cb
    clear hb hb' HR hne h0
    go_wp2_with fail
    refine HF.out.mono ?_
    rintro e w5 ⟨v5, rfl, hk5, ho5⟩
    obtain ⟨A5, c5, x5, rfl, _⟩ := id hk5
    obtain ⟨v6, s6, q6⟩ := ho5
    have HK := Lh hk5
    have HS6 := Lh s6
    have T6 := Lh (q6.tab SR.out TR.out hB)
    have Q6 := Lh (QR.out.trans q6)
    clear s6 q6 hk5 cb hnI
    go_wp2_with fail
    go_roundw
    case rel => exact ⟨A5, c5, l'.tail, v6, _, by rw [List.length_tail], HK, HS6, Q6, LF, T6, HX⟩
    case measure =>
     have := HLt.out
     rw [List.length_tail] at this
     exact this
end
end Go.Proofs.YtpbhgebblpdmnaaDoor
namespace Go.Proofs.YtpbhgebblpdmnaaDoor
open Go.RowKit Wr Src
set_option linter.unusedVariables false
set_option maxRecDepth 100000
section
variable {B h d dp s : Nat} {w : World} {v : Value} {x : Src.Wr}
theorem wpart_any (hB : B ≤ h) (hn : WNodeC B h d) (hs : WS h w v x dp) (ht : Tab B w) (hl : Lim s x) (hs3 : s ≤ 250) (hd : dp + d = 24) (nk : Int) (nt : Str) (nz : Int) (nl : List Nd) (hf : Fine nk nt nz) (A0 : Option Addr) (L0 C0 : Nat) (kv : Value) (l : List Nd) (hk : KV w h kv l) (c : UInt8) :
  Calls Tryd.prog 55 #[pt h, .agg #[iv nk, sv nt, iv nz, .slice A0 L0 C0], .string ⟨#[c]⟩, kv] w (WPart h w v dp c (wPart (wNode d) (.mk nk nt nz nl) c l x)) := by
 by_cases c1 : c = 110
 ·
  subst c1; exact wpart_n hn hs ht hl hs3 hd nk nt nz nl hf A0 L0 C0 kv l hk
 by_cases c2 : c = 108
 ·
  subst c2; exact wpart_l hn hs ht hl hs3 hd nk nt nz nl hf A0 L0 C0 kv l hk
 by_cases c3 : c = 100
 ·
  subst c3; exact wpart_d hn hs ht hl hs3 hd nk nt nz nl hf A0 L0 C0 kv l hk
 by_cases c4 : c = 122
 ·
  subst c4; exact wpart_z hn hs ht hl hs3 hd nk nt nz nl hf A0 L0 C0 kv l hk
 by_cases c5 : c = 69
 ·
  subst c5; exact wpart_E hn hs ht hl hs3 hd nk nt nz nl hf A0 L0 C0 kv l hk
 by_cases c6 : c = 66
 ·
  subst c6; exact wpart_B hn hs ht hl hs3 hd nk nt nz nl hf A0 L0 C0 kv l hk
 by_cases c7 : c = 76
 ·
  subst c7; exact wpart_L hn hs ht hl hs3 hd nk nt nz nl hf A0 L0 C0 kv l hk
 by_cases c8 : c = 80
 ·
  subst c8; exact wpart_P hn hs ht hl hs3 hd nk nt nz nl hf A0 L0 C0 kv l hk
 by_cases c9 : c = 79
 ·
  subst c9; exact wpart_O hn hs ht hl hs3 hd nk nt nz nl hf A0 L0 C0 kv l hk hB
 by_cases c10 : c = 73
 ·
  subst c10; exact wpart_I hn hs ht hl hs3 hd nk nt nz nl hf A0 L0 C0 kv l hk hB
 by_cases c11 : c = 83
 ·
  subst c11; exact wpart_S hn hs ht hl hs3 hd nk nt nz nl hf A0 L0 C0 kv l hk hB
 refine wpart_sign hn hs ht hl hs3 hd nk nt nz nl hf A0 L0 C0 kv l hk c ?_
 unfold partBytes
 simp only [List.mem_cons, List.not_mem_nil, or_false, not_or]
 exact ⟨c1, c2, c3, c4, c5, c6, c7, c8, c9, c10, c11⟩
end
/-! Parts behind which no part takes kids. -/
def kidBytes : Str := [69, 66, 76, 80, 79, 73, 83]
def kidFree (cs : Str) : Prop := ∀ c ∈ cs, c ∉ kidBytes
theorem part_free {f : Nd → Src.Wr → Src.Wr} {n : Nd} {c : UInt8} (hc : c ∉ kidBytes) (l l2 : List Nd) (x : Src.Wr) : (wPart f n c l x).2 = (wPart f n c l2 x).2 := by
 have h : ∀ k, k ∈ kidBytes → c ≠ k := fun k hk e => hc (e ▸ hk)
 unfold wPart
 split
 ·
  rfl
 split
 ·
  rfl
 split
 ·
  rfl
 rw [if_neg (fun e => by rcases e with e | e | e | e; exact h 69 (by decide) e; exact h 66 (by decide) e; exact h 76 (by decide) e; exact h 80 (by decide) e), if_neg (h 79 (by decide)), if_neg (fun e => e.elim (h 73 (by decide)) (h 83 (by decide))),
  if_neg (fun e => by rcases e with e | e | e | e; exact h 69 (by decide) e; exact h 66 (by decide) e; exact h 76 (by decide) e; exact h 80 (by decide) e), if_neg (h 79 (by decide)), if_neg (fun e => e.elim (h 73 (by decide)) (h 83 (by decide)))]
theorem parts_free {f : Nd → Src.Wr → Src.Wr} {n : Nd} : ∀ (cs : Str) (l l2 : List Nd) (x : Src.Wr), kidFree cs → wParts f n cs l x = wParts f n cs l2 x
 | [], l, l2, x, h => rfl
 | c :: cs, l, l2, x, h => by
  unfold wParts
  rw [part_free (h c (by simp)) l l2 x]
  exact parts_free cs _ _ _ (fun c hc => h c (by simp [hc]))
theorem shape_free (k : Nat) (hk : k < 37) (i : Nat) (hi : i < 5) (hc : (Src.shape k).parts[i]? = some 73 ∨ (Src.shape k).parts[i]? = some 83) : kidFree ((Src.shape k).parts.drop (i + 1)) := by
 have h : ∀ k, k < 37 → ∀ i, i < 5 → ((Src.shape k).parts[i]? = some 73 ∨ (Src.shape k).parts[i]? = some 83) → (((Src.shape k).parts.drop (i + 1)).all (fun c => !kidBytes.contains c)) = true := by decide
 intro c hm hkb
 have := List.all_eq_true.1 (h k hk i hi hc) c hm
 rw [List.contains_iff_mem.2 hkb] at this
 cases this
end Go.Proofs.YtpbhgebblpdmnaaDoor
