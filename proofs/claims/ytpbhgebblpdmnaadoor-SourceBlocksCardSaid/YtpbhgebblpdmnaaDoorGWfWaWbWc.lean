/-
  Contracts and words of several parts of the program (Wf, Wa, Wb, Wc), one after the other.
  Conditions: those that each says.
-/
import Derived.Test.YtpbhgebblpdmnaaDoorWu
import Derived.Test.YtpbhgebblpdmnaaDoorZ
import Derived.Test.YtpbhgebblpdmnaaDoorGPsPu
namespace Go.Proofs.YtpbhgebblpdmnaaDoor
open Go.RowKit Wr Src
set_option linter.unusedVariables false
set_option maxRecDepth 100000
theorem lim_bad {s : Nat} {x : Src.Wr} (h : Lim s x) : Lim s { x with bad := true } := ⟨fun e => (by simp at e), h.2⟩
theorem lim_kids {f : Nd → Src.Wr → Src.Wr} {m : Nat} (hf : ∀ n s x, Lim s x → Lim (max s m) (f n x)) : ∀ (l : List Nd) (s : Nat) (x : Src.Wr), Lim s x → Lim (max s m) (wKids f l x)
 | [], s, x, h => h.mono (by omega)
 | n :: l, s, x, h => by
  unfold wKids
  split
  ·
   exact h.mono (by omega)
  ·
   have := lim_kids hf l _ _ (hf n s x h)
   exact this.mono (by omega)
theorem lim_part {f : Nd → Src.Wr → Src.Wr} {m : Nat} (hf : ∀ n s x, Lim s x → Lim (max s m) (f n x)) (n : Nd) (c : UInt8) (l : List Nd) (s : Nat) (x : Src.Wr) (h : Lim s x) : Lim (max s m + 1) (wPart f n c l x).2 := by
 unfold wPart
 split
 ·
  exact (h.put _).mono (by omega)
 split
 ·
  exact (h.put _).mono (by omega)
 split
 ·
  exact (h.put _).mono (by omega)
 split
 ·
  cases l with
  | nil => exact (lim_bad h).mono (by omega)
  | cons y t => exact (hf y s x h).mono (by omega)
 split
 ·
  cases l with
  | nil => exact h.mono (by omega)
  | cons y t =>
   by_cases hb : (x.put wElse).bad = false
   ·
    exact (hf y 0 _ ((h.put _).ok hb)).mono (by omega)
   ·
    exact (hf y _ _ (h.put wElse)).mono (by omega)
 split
 ·
  exact (lim_kids hf l s x h).mono (by omega)
 ·
  exact (h.put _).mono (by omega)
theorem lim_parts {f : Nd → Src.Wr → Src.Wr} {m : Nat} (hf : ∀ n s x, Lim s x → Lim (max s m) (f n x)) (n : Nd) : ∀ (cs : Str) (l : List Nd) (s : Nat) (x : Src.Wr), Lim s x → Lim (max s m + cs.length) (wParts f n cs l x)
 | [], l, s, x, h => h.mono (by omega)
 | c :: cs, l, s, x, h => by
  unfold wParts
  exact (lim_parts hf n cs _ _ _ (lim_part hf n c l s x h)).mono (by rw [List.length_cons]; omega)
theorem lim_operand {f : Nd → Src.Wr → Src.Wr} {m : Nat} (hf : ∀ n s x, Lim s x → Lim (max s m) (f n x)) (n : Nd) (k s : Nat) (x : Src.Wr) (h : Lim s x) : Lim (max (s + 1) m + 1) (wOperand f n k x) := by
 unfold wOperand
 split
 ·
  exact (hf n s x h).mono (by omega)
 ·
  exact (hf n _ _ (h.put _)).put _
theorem lim_node : ∀ (d : Nat) (n : Nd) (s : Nat) (x : Src.Wr), Lim s x → Lim (max s (8 * d)) (wNode d n x)
 | 0, n, s, x, h => by unfold wNode; exact (lim_bad h).mono (by omega)
 | d + 1, n, s, x, h => by
  unfold wNode
  split
  ·
   exact (lim_bad h).mono (by omega)
  split
  ·
   exact h.mono (by omega)
  rename_i hb
  have h0 : Lim 0 x := h.ok (by simpa using hb)
  have hf := lim_node d
  split
  ·
   split
   ·
    exact (lim_operand hf _ _ _ _ ((lim_operand hf _ _ _ _ h0).put _)).mono (by omega)
   ·
    exact (lim_bad h).mono (by omega)
  ·
   rename_i hk _
   have hl : (Src.shape n.kind.toNat).parts.length ≤ 4 := shape_len _ (by omega)
   split
   ·
    exact (lim_parts hf _ _ _ _ _ h0).mono (by omega)
   ·
    exact (lim_parts hf _ _ _ _ _ (h0.put _)).mono (by omega)
def KV (w : World) (h : Nat) (v : Value) (l : List Nd) : Prop := ∃ A c xs, v = .slice A l.length c ∧ l.length ≤ 8589934592 ∧ l.length ≤ c ∧ (A = none → c = 0) ∧ RdP w (fun j => j < h) A xs ∧ NL w (fun j => j < h) l xs
theorem KV.nil (w : World) (h : Nat) : KV w h (.slice none 0 0) [] := ⟨none, 0, [], rfl, by simp, by simp, fun _ => rfl, fun e => absurd rfl e, NL.nil⟩
theorem WK.kv {h : Nat} {a b : World} {u v kv : Value} {x : Src.Wr} {dp : Nat} {l : List Nd} (k : WK h a u b v) (s : WS h a u x dp) (hn : KV a h kv l) : KV b h kv l := by
 obtain ⟨A, c, xs, h1, h2, h3, h4, h5, h6⟩ := hn
 exact ⟨A, c, xs, h1, h2, h3, h4, k.rd s h5, k.nl s h6⟩
theorem NV.kv {w : World} {h : Nat} {n : Nd} {cs : List Value} (hn : NV w (fun j => j < h) n cs) : ∃ v, cs = NC n.kind n.text n.num v ∧ Fine n.kind n.text n.num ∧ KV w h v n.kids := by
 obtain ⟨k, t, z, l⟩ := n
 obtain ⟨A, c, xs, h1, h2, h3, h4, h5, h6, h7⟩ := hn.form
 exact ⟨_, h1, h2, A, c, xs, rfl, h3, h4, h5, h6, h7⟩
def wFirst (f : Nd → Src.Wr → Src.Wr) (l : List Nd) (x : Src.Wr) : Src.Wr := match l with | [] => { x with bad := true } | y :: _ => f y x
def WNodeC (B h d : Nat) : Prop := ∀ W v x dp s n cs, Tab B W → WS h W v x dp → Lim s x → s ≤ 300 → dp + d = 24 → NV W (fun j => j < h) n cs → Calls Tryd.prog 35 #[pt h, .agg cs.toArray] W (fun en w' => en = .returned (.tuple #[]) ∧ WOut h W v (wNode d n x) dp w')
section
variable {B h d dp s : Nat} {w : World} {v : Value} {x : Src.Wr}
set_option maxHeartbeats 4000000 in
theorem first_walk (hn : WNodeC B h d) (hs : WS h w v x dp) (ht : Tab B w) (hl : Lim s x) (hs3 : s ≤ 300) (hd : dp + d = 24) (kv : Value) (l : List Nd) (hk : KV w h kv l) :
  Calls Tryd.prog 66 #[pt h, kv] w fun en w' => ∃ v', en = .returned v' ∧ KV w' h v' l.tail ∧ WOut h w v (wFirst (wNode d) l x) dp w' := by
 have HS := Lib.hid hs
 have c2 := hs.b.cell 2; have f2 := hs.b.frozen 2
 simp only [List.getElem?_cons_zero, List.getElem?_cons_succ] at c2
 obtain ⟨A, c, xs, rfl, k1, k2, k3, k4, k5⟩ := hk
 cases l with
 | nil =>
  simp only [List.length_nil] at k1 k2 ⊢
  clear hs ht hl hd hn k3 k4 k5
  go_enter Tryd.func66, Tryd.ntmps66
  go_wp2_with fail
  exact bodyPost_ret (v := .slice none 0 0) (by simp [results]) rfl ⟨_, rfl, KV.nil _ _, _, HS.out.setBad true, (WK.refl h w v).set 2 _⟩
 | cons y t =>
  obtain ⟨a, b, rfl, ha, hb⟩ := k5.inv
  have hne : a ++ b ≠ [] := by intro e; have := ha.len; rw [List.append_eq_nil_iff] at e; rw [e.1] at this; simp at this
  obtain ⟨g, o, rfl, hgh, hcell⟩ := k4 hne
  obtain ⟨nk, nt, nz, nl⟩ := y
  have ha' := ha
  obtain ⟨A1, c1, ys1, rfl, _⟩ := ha'.form
  have HN := Lib.hid (hn w v x dp s _ _ ht hs hl hs3 hd ha)
  have HC := Lib.hid (show ∀ j u, (NC nk nt nz (.slice A1 nl.length c1))[j]? = some u → w.cell? ((⟨g, o, none⟩ : Addr).add j) = some u from fun j u hu => by
   rw [Addr.add_lit]
   refine hcell j u ?_
   have hj : j < 4 := by
    have := List.getElem?_eq_some_iff.1 hu
    obtain ⟨h1, _⟩ := this
    exact h1
   rw [List.getElem?_append_left (by rw [ha.len]; exact hj)]
   exact hu)
  have HK4 := Lib.hid k4
  have HK5 := Lib.hid k5
  have Hb := Lib.hid hb
  obtain ⟨n, hn1⟩ : ∃ n, n = t.length := ⟨_, rfl⟩
  have HNt := Lib.hid hn1
  have elen : (Nd.mk nk nt nz nl :: t).length = n + 1 := by rw [List.length_cons, hn1]
  have HE1 : Hid (∀ w' v', KV w' h v' t → KV w' h v' (Nd.mk nk nt nz nl :: t).tail) := Lib.hid (fun _ _ h => h)
  have HE2 : Hid (wFirst (wNode d) (Nd.mk nk nt nz nl :: t) x = wNode d (.mk nk nt nz nl) x) := Lib.hid rfl
  rw [elen] at k1 k2 ⊢
  have HF : Hid (∀ w5, WOut h w v (wNode d (.mk nk nt nz nl) x) dp w5 → ∀ (o' c' : Nat), n ≤ c' → (o' = o + 4 ∨ n = 0) → KV w5 h (.slice (some ⟨g, o', none⟩) n c') t) := Lib.hid (fun w5 hw o' c' h1 h2 => by
   obtain ⟨v', hs', hwk⟩ := hw
   have hb0 : n = 0 → b = [] := fun e => by have := NL.len _ _ hb; rw [← hn1, e] at this; exact List.eq_nil_of_length_eq_zero (by omega)
   refine ⟨_, c', b, by rw [hn1], by omega, by omega, (fun e => by cases e), hwk.rd HS.out (fun hne => ?_), hwk.nl HS.out hb⟩
   have ho : o' = o + 4 := h2.resolve_right (fun e => hne (hb0 e))
   subst ho
   refine ⟨g, o + 4, rfl, hgh, fun j u hu => ?_⟩
   have := hcell (4 + j) u (by rw [List.getElem?_append_right (by rw [ha.len]; omega), ha.len, show 4 + j - 4 = j by omega]; exact hu)
   rwa [← Nat.add_assoc] at this)
  have hc1I : (n : Int) + 1 ≤ (c : Int) := by omega
  clear hs ht hl hd hn k3 k4 k5 hne ha ha' hb hcell hn1 elen
  dsimp only [NC]  at HC HN
  go_enter Tryd.func66, Tryd.ntmps66
  go_wp2_with (first | (with_reducible refine wpList_load_cells rfl 25 4 size25 (.tmp 13) rfl ⟨g, o, none⟩ rfl [iv nk, sv nt, iv nz, .slice A1 nl.length c1] rfl _ Tryd.underlying25 rfl HC.out ?_))
  refine HN.out.mono ?_
  rintro e w5 ⟨rfl, hout⟩
  have HO := Lib.hid hout
  clear hout
  go_wp2_with fail
  ·
   refine bodyPost_ret (v := .slice (some ⟨g, o, none⟩) n 0) (by simp [results]) rfl ⟨_, rfl, HE1.out _ _ (HF.out w5 HO.out o 0 (by omega) (Or.inr (by omega))), ?_⟩
   rw [HE2.out]
   exact HO.out
  ·
   refine bodyPost_ret (v := .slice (some ⟨g, o + 4, none⟩) n (c - 1)) (by simp [results]) rfl ⟨_, rfl, HE1.out _ _ (HF.out w5 HO.out (o + 4) (c - 1) (by omega) (Or.inl rfl)), ?_⟩
   rw [HE2.out]
   exact HO.out
end
end Go.Proofs.YtpbhgebblpdmnaaDoor
namespace Go.Proofs.YtpbhgebblpdmnaaDoor
open Go.RowKit Wr Src
set_option linter.unusedVariables false
set_option maxRecDepth 100000
def WPart (h : Nat) (w : World) (v : Value) (dp : Nat) (c : UInt8) (r : List Nd × Src.Wr) (en : Ending) (w' : World) : Prop := ∃ v' l2, en = .returned v' ∧ KV w' h v' l2 ∧ (l2 = r.1 ∨ c = 73 ∨ c = 83) ∧ WOut h w v r.2 dp w'
theorem WOut.from {h : Nat} {w w0 w' : World} {v : Value} {x : Src.Wr} {dp : Nat} (l : Below w.heap.size w w0) (k : WOut h w0 v x dp w') : WOut h w v x dp w' := by
  obtain ⟨v', h1, h2⟩ := k
  exact ⟨v', h1, (WK.below l).trans h2⟩
theorem WOut.kv {h : Nat} {w w' : World} {v kv : Value} {x x0 : Src.Wr} {dp dp0 : Nat} {l : List Nd} (k : WOut h w v x dp w') (s : WS h w v x0 dp0) (hk : KV w h kv l) : KV w' h kv l := by
  obtain ⟨v', h1, h2⟩ := k
  exact h2.kv s hk
theorem KV.below {h : Nat} {w w' : World} {kv : Value} {l : List Nd} (hk : KV w h kv l) (b : Below w.heap.size w w') : KV w' h kv l := by
  obtain ⟨A, c, xs, h1, h2, h3, h4, h5, h6⟩ := hk
  exact ⟨A, c, xs, h1, h2, h3, h4, h5.keep (fun g a1 a2 => ⟨b.block g a2, a1⟩), NL.keep (fun g a1 a2 => ⟨b.block g a2, a1⟩) _ _ h6⟩
theorem kidword (t : Str) : (⟨#[36]⟩ : ByteArray) ++ ⟨t.toArray⟩ = ⟨(36 :: t).toArray⟩ := by
  apply ByteArray.ext
  simp
theorem decD_log : ∀ k n, n < 10 ^ (k + 1) → (decD n).length ≤ k + 1
  | 0, n, h => by
    rw [decD, if_pos (by simpa using h)]
    simp
  | k + 1, n, h => by
    rw [decD]
    split
    · simp
    · rw [List.length_append]
      have := decD_log k (n / 10) (by rw [Nat.div_lt_iff_lt_mul (by omega)]; rw [Nat.pow_succ] at h; exact h)
      simp only [List.length_cons, List.length_nil]; omega
theorem decZ_len (z : Int) (h0 : -9223372036854775808 ≤ z) (h1 : z ≤ 9223372036854775807) : (decZ z).length ≤ 9000000000 := by
  have := decD_log 19 z.natAbs (by have : z.natAbs ≤ 9223372036854775808 := by omega
                                   exact Nat.lt_of_le_of_lt this (by decide))
  unfold decZ
  split
  · rw [List.length_cons]; omega
  · omega
section
variable {B h d dp s : Nat} {w : World} {v : Value} {x : Src.Wr}
set_option maxHeartbeats 4000000 in
theorem wpart_n (hn : WNodeC B h d) (hs : WS h w v x dp) (ht : Tab B w) (hl : Lim s x) (hs3 : s ≤ 250) (hd : dp + d = 24) (nk : Int) (nt : Str) (nz : Int) (nl : List Nd) (hf : Fine nk nt nz) (A0 : Option Addr) (L0 C0 : Nat) (kv : Value) (l : List Nd) (hk : KV w h kv l) :
    Calls Tryd.prog 55 #[pt h, .agg #[iv nk, sv nt, iv nz, .slice A0 L0 C0], .string ⟨#[110]⟩, kv] w (WPart h w v dp 110 (wPart (wNode d) (.mk nk nt nz nl) 110 l x)) := by
  have ht1 := hf.t1
  have hz0 := hf.z0; have hz1 := hf.z1
  obtain ⟨wb, hwb⟩ : ∃ wb, wb = w.heap.size := ⟨_, rfl⟩
  have HWB := Lh hwb
  have HWb := Lh hwb.symm
  obtain ⟨w0, hw0⟩ : ∃ w0, w0 = w.alloc (.cells #[.int .i64 nk, .string ⟨nt.toArray⟩, .int .i64 nz, .slice A0 L0 C0] 25) := ⟨_, rfl⟩
  have l0 : Below w.heap.size w w0 := by rw [hw0]; exact (Below.refl _ _).alloc (Nat.le_refl _) _
  have Z0 := Lh (show Blk w0 wb 25 [iv nk, sv nt, iv nz, .slice A0 L0 C0] by rw [hw0, hwb]; exact Blk.new w _ _)
  have L0' := Lh l0
  have S0 := Lh (hs.below l0)
  have T0 := Lh (ht.below l0)
  have K0 := Lh (hk.below l0)
  have LM := Lh hl
  have HWN := Lh hn
  have HDP := Lh hd
  have W0 := Lh hw0
  have HE1 : Hid (∀ w' v', KV w' h v' l → KV w' h v' (wPart (wNode d) (.mk nk nt nz nl) 110 l x).1) := Lh (fun _ _ h => h)
  have HE2 : Hid (∀ w', WOut h w v (x.put nt) dp w' → WOut h w v (wPart (wNode d) (.mk nk nt nz nl) 110 l x).2 dp w') := Lh (fun _ h => h)
  have HP := Lh (put_any S0.out (LM.out.mono (by omega)) nt (by omega))
  obtain ⟨KA, kc, kxs, hkv, k1, k2, k3, _⟩ := hk
  subst hkv
  clear hs ht hl hn hd hw0 hwb l0 hf
  go_enter Tryd.func55, Tryd.ntmps55
  go_upto_region 1 with fail
  rw [← W0.out, HWb.out]
  have c0 := Z0.out.cell 0; have c1 := Z0.out.cell 1; have c2 := Z0.out.cell 2; have c3 := Z0.out.cell 3
  simp only [g0, gs] at c0 c1 c2 c3
  go_wp2_with fail
  refine HP.out.mono ?_
  rintro e w5 ⟨rfl, hout⟩
  have HO := Lh hout
  clear hout c0 c1 c2 c3
  go_wp2_with fail
  refine bodyPost_ret (v := .slice KA l.length kc) (by simp [results]) rfl ⟨_, _, rfl, HE1.out _ _ (HO.out.kv S0.out K0.out), Or.inl rfl, HE2.out _ (HO.out.from L0'.out)⟩
set_option maxHeartbeats 4000000 in
theorem wpart_l (hn : WNodeC B h d) (hs : WS h w v x dp) (ht : Tab B w) (hl : Lim s x) (hs3 : s ≤ 250) (hd : dp + d = 24) (nk : Int) (nt : Str) (nz : Int) (nl : List Nd) (hf : Fine nk nt nz) (A0 : Option Addr) (L0 C0 : Nat) (kv : Value) (l : List Nd) (hk : KV w h kv l) :
    Calls Tryd.prog 55 #[pt h, .agg #[iv nk, sv nt, iv nz, .slice A0 L0 C0], .string ⟨#[108]⟩, kv] w (WPart h w v dp 108 (wPart (wNode d) (.mk nk nt nz nl) 108 l x)) := by
  have ht1 := hf.t1
  have hz0 := hf.z0; have hz1 := hf.z1
  obtain ⟨wb, hwb⟩ : ∃ wb, wb = w.heap.size := ⟨_, rfl⟩
  have HWB := Lh hwb
  have HWb := Lh hwb.symm
  obtain ⟨w0, hw0⟩ : ∃ w0, w0 = w.alloc (.cells #[.int .i64 nk, .string ⟨nt.toArray⟩, .int .i64 nz, .slice A0 L0 C0] 25) := ⟨_, rfl⟩
  have l0 : Below w.heap.size w w0 := by rw [hw0]; exact (Below.refl _ _).alloc (Nat.le_refl _) _
  have Z0 := Lh (show Blk w0 wb 25 [iv nk, sv nt, iv nz, .slice A0 L0 C0] by rw [hw0, hwb]; exact Blk.new w _ _)
  have L0' := Lh l0
  have S0 := Lh (hs.below l0)
  have T0 := Lh (ht.below l0)
  have K0 := Lh (hk.below l0)
  have LM := Lh hl
  have HWN := Lh hn
  have HDP := Lh hd
  have W0 := Lh hw0
  have HE1 : Hid (∀ w' v', KV w' h v' l → KV w' h v' (wPart (wNode d) (.mk nk nt nz nl) 108 l x).1) := Lh (fun _ _ h => h)
  have HE2 : Hid (∀ w', WOut h w v (x.put (36 :: nt)) dp w' → WOut h w v (wPart (wNode d) (.mk nk nt nz nl) 108 l x).2 dp w') := Lh (fun _ h => h)
  have HP := Lh (put_any S0.out (LM.out.mono (by omega)) (36 :: nt) (by rw [List.length_cons]; omega))
  have HKW := Lh (kidword nt)
  have hq : 1 + nt.length ≤ 9223372036854775807 := by omega
  obtain ⟨KA, kc, kxs, hkv, k1, k2, k3, _⟩ := hk
  subst hkv
  clear hs ht hl hn hd hw0 hwb l0 hf
  go_enter Tryd.func55, Tryd.ntmps55
  go_upto_region 1 with fail
  rw [← W0.out, HWb.out]
  have c0 := Z0.out.cell 0; have c1 := Z0.out.cell 1; have c2 := Z0.out.cell 2; have c3 := Z0.out.cell 3
  simp only [g0, gs] at c0 c1 c2 c3
  go_wp2_with fail
  rw [HKW.out]
  refine HP.out.mono ?_
  rintro e w5 ⟨rfl, hout⟩
  have HO := Lh hout
  clear hout c0 c1 c2 c3
  go_wp2_with fail
  refine bodyPost_ret (v := .slice KA l.length kc) (by simp [results]) rfl ⟨_, _, rfl, HE1.out _ _ (HO.out.kv S0.out K0.out), Or.inl rfl, HE2.out _ (HO.out.from L0'.out)⟩
set_option maxHeartbeats 4000000 in
theorem wpart_d (hn : WNodeC B h d) (hs : WS h w v x dp) (ht : Tab B w) (hl : Lim s x) (hs3 : s ≤ 250) (hd : dp + d = 24) (nk : Int) (nt : Str) (nz : Int) (nl : List Nd) (hf : Fine nk nt nz) (A0 : Option Addr) (L0 C0 : Nat) (kv : Value) (l : List Nd) (hk : KV w h kv l) :
    Calls Tryd.prog 55 #[pt h, .agg #[iv nk, sv nt, iv nz, .slice A0 L0 C0], .string ⟨#[100]⟩, kv] w (WPart h w v dp 100 (wPart (wNode d) (.mk nk nt nz nl) 100 l x)) := by
  have ht1 := hf.t1
  have hz0 := hf.z0; have hz1 := hf.z1
  obtain ⟨wb, hwb⟩ : ∃ wb, wb = w.heap.size := ⟨_, rfl⟩
  have HWB := Lh hwb
  have HWb := Lh hwb.symm
  obtain ⟨w0, hw0⟩ : ∃ w0, w0 = w.alloc (.cells #[.int .i64 nk, .string ⟨nt.toArray⟩, .int .i64 nz, .slice A0 L0 C0] 25) := ⟨_, rfl⟩
  have l0 : Below w.heap.size w w0 := by rw [hw0]; exact (Below.refl _ _).alloc (Nat.le_refl _) _
  have Z0 := Lh (show Blk w0 wb 25 [iv nk, sv nt, iv nz, .slice A0 L0 C0] by rw [hw0, hwb]; exact Blk.new w _ _)
  have L0' := Lh l0
  have S0 := Lh (hs.below l0)
  have T0 := Lh (ht.below l0)
  have K0 := Lh (hk.below l0)
  have LM := Lh hl
  have HWN := Lh hn
  have HDP := Lh hd
  have W0 := Lh hw0
  have HE1 : Hid (∀ w' v', KV w' h v' l → KV w' h v' (wPart (wNode d) (.mk nk nt nz nl) 100 l x).1) := Lh (fun _ _ h => h)
  have HE2 : Hid (∀ w', WOut h w v (x.put (decZ nz)) dp w' → WOut h w v (wPart (wNode d) (.mk nk nt nz nl) 100 l x).2 dp w') := Lh (fun _ h => h)
  have HI := Lh (itoa_any nz w0 T0.out hz0 hz1)
  have HDL := Lh (decZ_len nz hz0 hz1)
  obtain ⟨KA, kc, kxs, hkv, k1, k2, k3, _⟩ := hk
  subst hkv
  clear hs ht hl hn hd hw0 hwb l0 hf
  go_enter Tryd.func55, Tryd.ntmps55
  go_upto_region 1 with fail
  rw [← W0.out, HWb.out]
  have c0 := Z0.out.cell 0; have c1 := Z0.out.cell 1; have c2 := Z0.out.cell 2; have c3 := Z0.out.cell 3
  simp only [g0, gs] at c0 c1 c2 c3
  go_wp2_with fail
  refine HI.out.mono ?_
  rintro e w4 ⟨rfl, b4⟩
  have S4 := Lh (S0.out.below b4)
  have K4 := Lh (K0.out.below b4)
  have L4 := Lh (below_step L0'.out b4)
  have HP := Lh (put_any S4.out (LM.out.mono (by omega)) (decZ nz) HDL.out)
  clear b4
  go_wp2_with fail
  refine HP.out.mono ?_
  rintro e w5 ⟨rfl, hout⟩
  have HO := Lh hout
  clear hout c0 c1 c2 c3
  go_wp2_with fail
  refine bodyPost_ret (v := .slice KA l.length kc) (by simp [results]) rfl ⟨_, _, rfl, HE1.out _ _ (HO.out.kv S4.out K4.out), Or.inl rfl, HE2.out _ (HO.out.from L4.out)⟩
set_option maxHeartbeats 4000000 in
theorem wpart_z (hn : WNodeC B h d) (hs : WS h w v x dp) (ht : Tab B w) (hl : Lim s x) (hs3 : s ≤ 250) (hd : dp + d = 24) (nk : Int) (nt : Str) (nz : Int) (nl : List Nd) (hf : Fine nk nt nz) (A0 : Option Addr) (L0 C0 : Nat) (kv : Value) (l : List Nd) (hk : KV w h kv l) :
    Calls Tryd.prog 55 #[pt h, .agg #[iv nk, sv nt, iv nz, .slice A0 L0 C0], .string ⟨#[122]⟩, kv] w (WPart h w v dp 122 (wPart (wNode d) (.mk nk nt nz nl) 122 l x)) := by
  have ht1 := hf.t1
  have hz0 := hf.z0; have hz1 := hf.z1
  obtain ⟨wb, hwb⟩ : ∃ wb, wb = w.heap.size := ⟨_, rfl⟩
  have HWB := Lh hwb
  have HWb := Lh hwb.symm
  obtain ⟨w0, hw0⟩ : ∃ w0, w0 = w.alloc (.cells #[.int .i64 nk, .string ⟨nt.toArray⟩, .int .i64 nz, .slice A0 L0 C0] 25) := ⟨_, rfl⟩
  have l0 : Below w.heap.size w w0 := by rw [hw0]; exact (Below.refl _ _).alloc (Nat.le_refl _) _
  have Z0 := Lh (show Blk w0 wb 25 [iv nk, sv nt, iv nz, .slice A0 L0 C0] by rw [hw0, hwb]; exact Blk.new w _ _)
  have L0' := Lh l0
  have S0 := Lh (hs.below l0)
  have T0 := Lh (ht.below l0)
  have K0 := Lh (hk.below l0)
  have LM := Lh hl
  have HWN := Lh hn
  have HDP := Lh hd
  have W0 := Lh hw0
  have HE1 : Hid (∀ w' v', KV w' h v' l → KV w' h v' (wPart (wNode d) (.mk nk nt nz nl) 122 l x).1) := Lh (fun _ _ h => h)
  have HE2 : Hid (∀ w', WOut h w v (x.put (decZ nz)) dp w' → WOut h w v (wPart (wNode d) (.mk nk nt nz nl) 122 l x).2 dp w') := Lh (fun _ h => h)
  have HI := Lh (itoa_any nz w0 T0.out hz0 hz1)
  have HDL := Lh (decZ_len nz hz0 hz1)
  obtain ⟨KA, kc, kxs, hkv, k1, k2, k3, _⟩ := hk
  subst hkv
  clear hs ht hl hn hd hw0 hwb l0 hf
  go_enter Tryd.func55, Tryd.ntmps55
  go_upto_region 1 with fail
  rw [← W0.out, HWb.out]
  have c0 := Z0.out.cell 0; have c1 := Z0.out.cell 1; have c2 := Z0.out.cell 2; have c3 := Z0.out.cell 3
  simp only [g0, gs] at c0 c1 c2 c3
  go_wp2_with fail
  refine HI.out.mono ?_
  rintro e w4 ⟨rfl, b4⟩
  have S4 := Lh (S0.out.below b4)
  have K4 := Lh (K0.out.below b4)
  have L4 := Lh (below_step L0'.out b4)
  have HP := Lh (put_any S4.out (LM.out.mono (by omega)) (decZ nz) HDL.out)
  clear b4
  go_wp2_with fail
  refine HP.out.mono ?_
  rintro e w5 ⟨rfl, hout⟩
  have HO := Lh hout
  clear hout c0 c1 c2 c3
  go_wp2_with fail
  refine bodyPost_ret (v := .slice KA l.length kc) (by simp [results]) rfl ⟨_, _, rfl, HE1.out _ _ (HO.out.kv S4.out K4.out), Or.inl rfl, HE2.out _ (HO.out.from L4.out)⟩
end
end Go.Proofs.YtpbhgebblpdmnaaDoor
namespace Go.Proofs.YtpbhgebblpdmnaaDoor
open Go.RowKit Wr Src
set_option linter.unusedVariables false
set_option maxRecDepth 100000
section
variable {B h d dp s : Nat} {w : World} {v : Value} {x : Src.Wr}
set_option maxHeartbeats 4000000 in
theorem wpart_E (hn : WNodeC B h d) (hs : WS h w v x dp) (ht : Tab B w) (hl : Lim s x) (hs3 : s ≤ 250) (hd : dp + d = 24) (nk : Int) (nt : Str) (nz : Int) (nl : List Nd) (hf : Fine nk nt nz) (A0 : Option Addr) (L0 C0 : Nat) (kv : Value) (l : List Nd) (hk : KV w h kv l) :
  Calls Tryd.prog 55 #[pt h, .agg #[iv nk, sv nt, iv nz, .slice A0 L0 C0], .string ⟨#[69]⟩, kv] w (WPart h w v dp 69 (wPart (wNode d) (.mk nk nt nz nl) 69 l x)) := by
 have ht1 := hf.t1
 have hz0 := hf.z0; have hz1 := hf.z1
 obtain ⟨wb, hwb⟩ : ∃ wb, wb = w.heap.size := ⟨_, rfl⟩
 have HWB := Lh hwb
 have HWb := Lh hwb.symm
 obtain ⟨w0, hw0⟩ : ∃ w0, w0 = w.alloc (.cells #[.int .i64 nk, .string ⟨nt.toArray⟩, .int .i64 nz, .slice A0 L0 C0] 25) := ⟨_, rfl⟩
 have l0 : Below w.heap.size w w0 := by rw [hw0]; exact (Below.refl _ _).alloc (Nat.le_refl _) _
 have Z0 := Lh (show Blk w0 wb 25 [iv nk, sv nt, iv nz, .slice A0 L0 C0] by rw [hw0, hwb]; exact Blk.new w _ _)
 have L0' := Lh l0
 have S0 := Lh (hs.below l0)
 have T0 := Lh (ht.below l0)
 have K0 := Lh (hk.below l0)
 have LM := Lh hl
 have HWN := Lh hn
 have HDP := Lh hd
 have W0 := Lh hw0
 have HE1 : Hid (∀ w' v', KV w' h v' l.tail → KV w' h v' (wPart (wNode d) (.mk nk nt nz nl) 69 l x).1) := Lh (fun _ _ h => by cases l <;> exact h)
 have HE2 : Hid (∀ w', WOut h w v (wFirst (wNode d) l x) dp w' → WOut h w v (wPart (wNode d) (.mk nk nt nz nl) 69 l x).2 dp w') := Lh (fun _ h => by cases l <;> exact h)
 have HP := Lh (first_walk HWN.out S0.out T0.out LM.out (by omega) HDP.out kv l K0.out)
 have HKv := Lh hk
 obtain ⟨KA, kc, kxs, hkv, k1, k2, k3, _⟩ := hk
 subst hkv
 clear hs ht hl hn hd hw0 hwb l0 hf
 go_enter Tryd.func55, Tryd.ntmps55
 go_upto_region 1 with fail
 rw [← W0.out, HWb.out]
 have c0 := Z0.out.cell 0; have c1 := Z0.out.cell 1; have c2 := Z0.out.cell 2; have c3 := Z0.out.cell 3
 simp only [g0, gs] at c0 c1 c2 c3
 clear HKv
 go_wp2_with fail
 refine HP.out.mono ?_
 rintro e w5 ⟨v5, rfl, hk5, ho5⟩
 obtain ⟨A5, c5, x5, rfl, _⟩ := id hk5
 have HO := Lh ho5
 have HK := Lh hk5
 clear ho5 hk5 c0 c1 c2 c3
 go_wp2_with fail
 refine bodyPost_ret (v := .slice A5 l.tail.length c5) (by simp [results]) rfl ⟨_, _, rfl, HE1.out _ _ HK.out, Or.inl rfl, HE2.out _ (HO.out.from L0'.out)⟩
set_option maxHeartbeats 4000000 in
theorem wpart_B (hn : WNodeC B h d) (hs : WS h w v x dp) (ht : Tab B w) (hl : Lim s x) (hs3 : s ≤ 250) (hd : dp + d = 24) (nk : Int) (nt : Str) (nz : Int) (nl : List Nd) (hf : Fine nk nt nz) (A0 : Option Addr) (L0 C0 : Nat) (kv : Value) (l : List Nd) (hk : KV w h kv l) :
  Calls Tryd.prog 55 #[pt h, .agg #[iv nk, sv nt, iv nz, .slice A0 L0 C0], .string ⟨#[66]⟩, kv] w (WPart h w v dp 66 (wPart (wNode d) (.mk nk nt nz nl) 66 l x)) := by
 have ht1 := hf.t1
 have hz0 := hf.z0; have hz1 := hf.z1
 obtain ⟨wb, hwb⟩ : ∃ wb, wb = w.heap.size := ⟨_, rfl⟩
 have HWB := Lh hwb
 have HWb := Lh hwb.symm
 obtain ⟨w0, hw0⟩ : ∃ w0, w0 = w.alloc (.cells #[.int .i64 nk, .string ⟨nt.toArray⟩, .int .i64 nz, .slice A0 L0 C0] 25) := ⟨_, rfl⟩
 have l0 : Below w.heap.size w w0 := by rw [hw0]; exact (Below.refl _ _).alloc (Nat.le_refl _) _
 have Z0 := Lh (show Blk w0 wb 25 [iv nk, sv nt, iv nz, .slice A0 L0 C0] by rw [hw0, hwb]; exact Blk.new w _ _)
 have L0' := Lh l0
 have S0 := Lh (hs.below l0)
 have T0 := Lh (ht.below l0)
 have K0 := Lh (hk.below l0)
 have LM := Lh hl
 have HWN := Lh hn
 have HDP := Lh hd
 have W0 := Lh hw0
 have HE1 : Hid (∀ w' v', KV w' h v' l.tail → KV w' h v' (wPart (wNode d) (.mk nk nt nz nl) 66 l x).1) := Lh (fun _ _ h => by cases l <;> exact h)
 have HE2 : Hid (∀ w', WOut h w v (wFirst (wNode d) l x) dp w' → WOut h w v (wPart (wNode d) (.mk nk nt nz nl) 66 l x).2 dp w') := Lh (fun _ h => by cases l <;> exact h)
 have HP := Lh (first_walk HWN.out S0.out T0.out LM.out (by omega) HDP.out kv l K0.out)
 have HKv := Lh hk
 obtain ⟨KA, kc, kxs, hkv, k1, k2, k3, _⟩ := hk
 subst hkv
 clear hs ht hl hn hd hw0 hwb l0 hf
 go_enter Tryd.func55, Tryd.ntmps55
 go_upto_region 1 with fail
 rw [← W0.out, HWb.out]
 have c0 := Z0.out.cell 0; have c1 := Z0.out.cell 1; have c2 := Z0.out.cell 2; have c3 := Z0.out.cell 3
 simp only [g0, gs] at c0 c1 c2 c3
 clear HKv
 go_wp2_with fail
 refine HP.out.mono ?_
 rintro e w5 ⟨v5, rfl, hk5, ho5⟩
 obtain ⟨A5, c5, x5, rfl, _⟩ := id hk5
 have HO := Lh ho5
 have HK := Lh hk5
 clear ho5 hk5 c0 c1 c2 c3
 go_wp2_with fail
 refine bodyPost_ret (v := .slice A5 l.tail.length c5) (by simp [results]) rfl ⟨_, _, rfl, HE1.out _ _ HK.out, Or.inl rfl, HE2.out _ (HO.out.from L0'.out)⟩
set_option maxHeartbeats 4000000 in
theorem wpart_L (hn : WNodeC B h d) (hs : WS h w v x dp) (ht : Tab B w) (hl : Lim s x) (hs3 : s ≤ 250) (hd : dp + d = 24) (nk : Int) (nt : Str) (nz : Int) (nl : List Nd) (hf : Fine nk nt nz) (A0 : Option Addr) (L0 C0 : Nat) (kv : Value) (l : List Nd) (hk : KV w h kv l) :
  Calls Tryd.prog 55 #[pt h, .agg #[iv nk, sv nt, iv nz, .slice A0 L0 C0], .string ⟨#[76]⟩, kv] w (WPart h w v dp 76 (wPart (wNode d) (.mk nk nt nz nl) 76 l x)) := by
 have ht1 := hf.t1
 have hz0 := hf.z0; have hz1 := hf.z1
 obtain ⟨wb, hwb⟩ : ∃ wb, wb = w.heap.size := ⟨_, rfl⟩
 have HWB := Lh hwb
 have HWb := Lh hwb.symm
 obtain ⟨w0, hw0⟩ : ∃ w0, w0 = w.alloc (.cells #[.int .i64 nk, .string ⟨nt.toArray⟩, .int .i64 nz, .slice A0 L0 C0] 25) := ⟨_, rfl⟩
 have l0 : Below w.heap.size w w0 := by rw [hw0]; exact (Below.refl _ _).alloc (Nat.le_refl _) _
 have Z0 := Lh (show Blk w0 wb 25 [iv nk, sv nt, iv nz, .slice A0 L0 C0] by rw [hw0, hwb]; exact Blk.new w _ _)
 have L0' := Lh l0
 have S0 := Lh (hs.below l0)
 have T0 := Lh (ht.below l0)
 have K0 := Lh (hk.below l0)
 have LM := Lh hl
 have HWN := Lh hn
 have HDP := Lh hd
 have W0 := Lh hw0
 have HE1 : Hid (∀ w' v', KV w' h v' l.tail → KV w' h v' (wPart (wNode d) (.mk nk nt nz nl) 76 l x).1) := Lh (fun _ _ h => by cases l <;> exact h)
 have HE2 : Hid (∀ w', WOut h w v (wFirst (wNode d) l x) dp w' → WOut h w v (wPart (wNode d) (.mk nk nt nz nl) 76 l x).2 dp w') := Lh (fun _ h => by cases l <;> exact h)
 have HP := Lh (first_walk HWN.out S0.out T0.out LM.out (by omega) HDP.out kv l K0.out)
 have HKv := Lh hk
 obtain ⟨KA, kc, kxs, hkv, k1, k2, k3, _⟩ := hk
 subst hkv
 clear hs ht hl hn hd hw0 hwb l0 hf
 go_enter Tryd.func55, Tryd.ntmps55
 go_upto_region 1 with fail
 rw [← W0.out, HWb.out]
 have c0 := Z0.out.cell 0; have c1 := Z0.out.cell 1; have c2 := Z0.out.cell 2; have c3 := Z0.out.cell 3
 simp only [g0, gs] at c0 c1 c2 c3
 clear HKv
 go_wp2_with fail
 refine HP.out.mono ?_
 rintro e w5 ⟨v5, rfl, hk5, ho5⟩
 obtain ⟨A5, c5, x5, rfl, _⟩ := id hk5
 have HO := Lh ho5
 have HK := Lh hk5
 clear ho5 hk5 c0 c1 c2 c3
 go_wp2_with fail
 refine bodyPost_ret (v := .slice A5 l.tail.length c5) (by simp [results]) rfl ⟨_, _, rfl, HE1.out _ _ HK.out, Or.inl rfl, HE2.out _ (HO.out.from L0'.out)⟩
set_option maxHeartbeats 4000000 in
theorem wpart_P (hn : WNodeC B h d) (hs : WS h w v x dp) (ht : Tab B w) (hl : Lim s x) (hs3 : s ≤ 250) (hd : dp + d = 24) (nk : Int) (nt : Str) (nz : Int) (nl : List Nd) (hf : Fine nk nt nz) (A0 : Option Addr) (L0 C0 : Nat) (kv : Value) (l : List Nd) (hk : KV w h kv l) :
  Calls Tryd.prog 55 #[pt h, .agg #[iv nk, sv nt, iv nz, .slice A0 L0 C0], .string ⟨#[80]⟩, kv] w (WPart h w v dp 80 (wPart (wNode d) (.mk nk nt nz nl) 80 l x)) := by
 have ht1 := hf.t1
 have hz0 := hf.z0; have hz1 := hf.z1
 obtain ⟨wb, hwb⟩ : ∃ wb, wb = w.heap.size := ⟨_, rfl⟩
 have HWB := Lh hwb
 have HWb := Lh hwb.symm
 obtain ⟨w0, hw0⟩ : ∃ w0, w0 = w.alloc (.cells #[.int .i64 nk, .string ⟨nt.toArray⟩, .int .i64 nz, .slice A0 L0 C0] 25) := ⟨_, rfl⟩
 have l0 : Below w.heap.size w w0 := by rw [hw0]; exact (Below.refl _ _).alloc (Nat.le_refl _) _
 have Z0 := Lh (show Blk w0 wb 25 [iv nk, sv nt, iv nz, .slice A0 L0 C0] by rw [hw0, hwb]; exact Blk.new w _ _)
 have L0' := Lh l0
 have S0 := Lh (hs.below l0)
 have T0 := Lh (ht.below l0)
 have K0 := Lh (hk.below l0)
 have LM := Lh hl
 have HWN := Lh hn
 have HDP := Lh hd
 have W0 := Lh hw0
 have HE1 : Hid (∀ w' v', KV w' h v' l.tail → KV w' h v' (wPart (wNode d) (.mk nk nt nz nl) 80 l x).1) := Lh (fun _ _ h => by cases l <;> exact h)
 have HE2 : Hid (∀ w', WOut h w v (wFirst (wNode d) l x) dp w' → WOut h w v (wPart (wNode d) (.mk nk nt nz nl) 80 l x).2 dp w') := Lh (fun _ h => by cases l <;> exact h)
 have HP := Lh (first_walk HWN.out S0.out T0.out LM.out (by omega) HDP.out kv l K0.out)
 have HKv := Lh hk
 obtain ⟨KA, kc, kxs, hkv, k1, k2, k3, _⟩ := hk
 subst hkv
 clear hs ht hl hn hd hw0 hwb l0 hf
 go_enter Tryd.func55, Tryd.ntmps55
 go_upto_region 1 with fail
 rw [← W0.out, HWb.out]
 have c0 := Z0.out.cell 0; have c1 := Z0.out.cell 1; have c2 := Z0.out.cell 2; have c3 := Z0.out.cell 3
 simp only [g0, gs] at c0 c1 c2 c3
 clear HKv
 go_wp2_with fail
 refine HP.out.mono ?_
 rintro e w5 ⟨v5, rfl, hk5, ho5⟩
 obtain ⟨A5, c5, x5, rfl, _⟩ := id hk5
 have HO := Lh ho5
 have HK := Lh hk5
 clear ho5 hk5 c0 c1 c2 c3
 go_wp2_with fail
 refine bodyPost_ret (v := .slice A5 l.tail.length c5) (by simp [results]) rfl ⟨_, _, rfl, HE1.out _ _ HK.out, Or.inl rfl, HE2.out _ (HO.out.from L0'.out)⟩
end
end Go.Proofs.YtpbhgebblpdmnaaDoor
namespace Go.Proofs.YtpbhgebblpdmnaaDoor
open Go.RowKit Wr Src
set_option linter.unusedVariables false
set_option maxRecDepth 100000
section
variable {B h d dp s : Nat} {w : World} {v : Value} {x : Src.Wr}
set_option maxHeartbeats 4000000 in
theorem wpart_O (hn : WNodeC B h d) (hs : WS h w v x dp) (ht : Tab B w) (hl : Lim s x) (hs3 : s ≤ 250) (hd : dp + d = 24) (nk : Int) (nt : Str) (nz : Int) (nl : List Nd) (hf : Fine nk nt nz) (A0 : Option Addr) (L0 C0 : Nat) (kv : Value) (l : List Nd) (hk : KV w h kv l) (hB : B ≤ h) :
  Calls Tryd.prog 55 #[pt h, .agg #[iv nk, sv nt, iv nz, .slice A0 L0 C0], .string ⟨#[79]⟩, kv] w (WPart h w v dp 79 (wPart (wNode d) (.mk nk nt nz nl) 79 l x)) := by
 have ht1 := hf.t1
 have hz0 := hf.z0; have hz1 := hf.z1
 obtain ⟨wb, hwb⟩ : ∃ wb, wb = w.heap.size := ⟨_, rfl⟩
 have HWB := Lh hwb
 have HWb := Lh hwb.symm
 obtain ⟨w0, hw0⟩ : ∃ w0, w0 = w.alloc (.cells #[.int .i64 nk, .string ⟨nt.toArray⟩, .int .i64 nz, .slice A0 L0 C0] 25) := ⟨_, rfl⟩
 have l0 : Below w.heap.size w w0 := by rw [hw0]; exact (Below.refl _ _).alloc (Nat.le_refl _) _
 have Z0 := Lh (show Blk w0 wb 25 [iv nk, sv nt, iv nz, .slice A0 L0 C0] by rw [hw0, hwb]; exact Blk.new w _ _)
 have L0' := Lh l0
 have S0 := Lh (hs.below l0)
 have T0 := Lh (ht.below l0)
 have K0 := Lh (hk.below l0)
 have LM := Lh hl
 have HWN := Lh hn
 have HDP := Lh hd
 have W0 := Lh hw0
 have HE : Hid (l ≠ [] → ∀ w' v', (KV w' h v' l.tail → KV w' h v' (wPart (wNode d) (.mk nk nt nz nl) 79 l x).1) ∧ (WOut h w v (wFirst (wNode d) l (x.put wElse)) dp w' → WOut h w v (wPart (wNode d) (.mk nk nt nz nl) 79 l x).2 dp w')) := Lh (fun hn _ _ => by cases l with | nil => exact absurd rfl hn | cons y t => exact ⟨fun h => h, fun h => h⟩)
 have HE0 : Hid (l = [] → ∀ w' v', (KV w' h v' l → KV w' h v' (wPart (wNode d) (.mk nk nt nz nl) 79 l x).1) ∧ (WOut h w v x dp w' → WOut h w v (wPart (wNode d) (.mk nk nt nz nl) 79 l x).2 dp w')) := Lh (fun hn _ _ => by subst hn; exact ⟨fun h => h, fun h => h⟩)
 have HP := Lh (put_any S0.out (LM.out.mono (by omega)) wElse (by decide))
 obtain ⟨nl', hnl⟩ : ∃ n, n = l.length := ⟨_, rfl⟩
 have HNL := Lh hnl
 clear hnl
 obtain ⟨KA, kc, kxs, hkv, k1, k2, k3, _⟩ := hk
 subst hkv
 clear hs ht hl hn hd hw0 hwb l0 hf
 go_enter Tryd.func55, Tryd.ntmps55
 go_upto_region 1 with fail
 rw [← W0.out, HWb.out]
 have c0 := Z0.out.cell 0; have c1 := Z0.out.cell 1; have c2 := Z0.out.cell 2; have c3 := Z0.out.cell 3
 simp only [List.getElem?_cons_zero, List.getElem?_cons_succ] at c0 c1 c2 c3
 have K0' := K0
 rw [← HNL.out] at K0' k1 k2 ⊢
 by_cases h0 : nl' = 0
 ·
  have hl0 : l = [] := List.eq_nil_of_length_eq_zero (HNL.out.symm.trans h0)
  have HE0' := Lh (HE0.out hl0)
  clear hl0 HE HE0
  go_wp2_with fail
  exact bodyPost_ret (v := .slice KA nl' kc) (by simp [results]) rfl ⟨_, _, rfl, (HE0'.out _ _).1 K0'.out, Or.inl rfl, (HE0'.out _ (.slice none 0 0)).2 (WOut.from L0'.out ⟨v, S0.out, WK.refl _ _ _⟩)⟩
 ·
  have hne : l ≠ [] := by intro e; have := HNL.out; rw [e] at this; exact h0 this
  have HE' := Lh (HE.out hne)
  have hnI : (0 : Int) < (nl' : Int) := by omega
  clear HE HE0 hne h0
  go_wp2_with fail
  refine HP.out.mono ?_
  rintro e w3 ⟨rfl, hout⟩
  obtain ⟨v3, s3, q3⟩ := hout
  have S3 := Lh s3
  have K3 := Lh (q3.kv S0.out K0'.out)
  have T3 := Lh (q3.tab S0.out T0.out hB)
  have Q3 := Lh ((WK.below L0'.out).trans q3)
  have HF := Lh (first_walk HWN.out S3.out T3.out (LM.out.put wElse) (by omega) HDP.out _ l K3.out)
  clear s3 q3 HP c0 c1 c2 c3
  go_wp2_with fail
  refine HF.out.mono ?_
  rintro e w5 ⟨v5, rfl, hk5, ho5⟩
  obtain ⟨A5, c5, x5, rfl, _⟩ := id hk5
  obtain ⟨v6, s6, q6⟩ := ho5
  have HK := Lh hk5
  have HS6 := Lh s6
  have Q6 := Lh (Q3.out.trans q6)
  clear s6 q6 hk5
  go_wp2_with fail
  exact bodyPost_ret (v := .slice A5 l.tail.length c5) (by simp [results]) rfl ⟨_, _, rfl, (HE'.out _ _).1 HK.out, Or.inl rfl, (HE'.out _ (.slice none 0 0)).2 ⟨v6, HS6.out, Q6.out⟩⟩
theorem wpart_def {f : Nd → Src.Wr → Src.Wr} {n : Nd} {c : UInt8} {l : List Nd} {x : Src.Wr} (hc : c ∉ partBytes) : wPart f n c l x = (l, x.put [c]) := by
 have h : ∀ k, k ∈ partBytes → c ≠ k := fun k hk e => hc (e ▸ hk)
 unfold wPart
 rw [if_neg (h 110 (by decide)), if_neg (h 108 (by decide)), if_neg (fun e => e.elim (h 100 (by decide)) (h 122 (by decide))), if_neg (fun e => by rcases e with e | e | e | e; exact h 69 (by decide) e; exact h 66 (by decide) e; exact h 76 (by decide) e; exact h 80 (by decide) e), if_neg (h 79 (by decide)), if_neg (fun e => e.elim (h 73 (by decide)) (h 83 (by decide)))]
set_option maxHeartbeats 4000000 in
theorem wpart_sign (hn : WNodeC B h d) (hs : WS h w v x dp) (ht : Tab B w) (hl : Lim s x) (hs3 : s ≤ 250) (hd : dp + d = 24) (nk : Int) (nt : Str) (nz : Int) (nl : List Nd) (hf : Fine nk nt nz) (A0 : Option Addr) (L0 C0 : Nat) (kv : Value) (l : List Nd) (hk : KV w h kv l) (c : UInt8) (hc : c ∉ partBytes) :
  Calls Tryd.prog 55 #[pt h, .agg #[iv nk, sv nt, iv nz, .slice A0 L0 C0], .string ⟨#[c]⟩, kv] w (WPart h w v dp c (wPart (wNode d) (.mk nk nt nz nl) c l x)) := by
 have ht1 := hf.t1
 have hz0 := hf.z0; have hz1 := hf.z1
 obtain ⟨wb, hwb⟩ : ∃ wb, wb = w.heap.size := ⟨_, rfl⟩
 have HWB := Lh hwb
 have HWb := Lh hwb.symm
 obtain ⟨w0, hw0⟩ : ∃ w0, w0 = w.alloc (.cells #[.int .i64 nk, .string ⟨nt.toArray⟩, .int .i64 nz, .slice A0 L0 C0] 25) := ⟨_, rfl⟩
 have l0 : Below w.heap.size w w0 := by rw [hw0]; exact (Below.refl _ _).alloc (Nat.le_refl _) _
 have Z0 := Lh (show Blk w0 wb 25 [iv nk, sv nt, iv nz, .slice A0 L0 C0] by rw [hw0, hwb]; exact Blk.new w _ _)
 have L0' := Lh l0
 have S0 := Lh (hs.below l0)
 have T0 := Lh (ht.below l0)
 have K0 := Lh (hk.below l0)
 have LM := Lh hl
 have HWN := Lh hn
 have HDP := Lh hd
 have W0 := Lh hw0
 have HE1 : Hid (∀ w' v', KV w' h v' l → KV w' h v' (wPart (wNode d) (.mk nk nt nz nl) c l x).1) := Lh (fun _ _ h => by rw [wpart_def hc]; exact h)
 have HE2 : Hid (∀ w', WOut h w v (x.put [c]) dp w' → WOut h w v (wPart (wNode d) (.mk nk nt nz nl) c l x).2 dp w') := Lh (fun _ h => by rw [wpart_def hc]; exact h)
 have HP := Lh (put_any S0.out (LM.out.mono (by omega)) [c] (by simp))
 have e1 := not_part hc 110 (by omega) (by decide); have e2 := not_part hc 108 (by omega) (by decide); have e3 := not_part hc 100 (by omega) (by decide); have e4 := not_part hc 122 (by omega) (by decide)
 have e5 := not_part hc 69 (by omega) (by decide); have e6 := not_part hc 66 (by omega) (by decide); have e7 := not_part hc 76 (by omega) (by decide); have e8 := not_part hc 80 (by omega) (by decide)
 have e9 := not_part hc 79 (by omega) (by decide); have e10 := not_part hc 73 (by omega) (by decide); have e11 := not_part hc 83 (by omega) (by decide)
 change (((c.toNat : Nat) : Int) == 110) = false at e1; change (((c.toNat : Nat) : Int) == 108) = false at e2; change (((c.toNat : Nat) : Int) == 100) = false at e3; change (((c.toNat : Nat) : Int) == 122) = false at e4
 change (((c.toNat : Nat) : Int) == 69) = false at e5; change (((c.toNat : Nat) : Int) == 66) = false at e6; change (((c.toNat : Nat) : Int) == 76) = false at e7; change (((c.toNat : Nat) : Int) == 80) = false at e8
 change (((c.toNat : Nat) : Int) == 79) = false at e9; change (((c.toNat : Nat) : Int) == 73) = false at e10; change (((c.toNat : Nat) : Int) == 83) = false at e11
 have hx : (⟨#[c]⟩ : ByteArray)[0]'(show 0 < 1 by omega) = c := rfl
 clear hc
 obtain ⟨KA, kc, kxs, hkv, k1, k2, k3, _⟩ := hk
 subst hkv
 clear hs ht hl hn hd hw0 hwb l0 hf
 go_enter Tryd.func55, Tryd.ntmps55
 go_upto_region 1 with fail
 rw [← W0.out, HWb.out]
 have c0 := Z0.out.cell 0; have c1 := Z0.out.cell 1; have c2 := Z0.out.cell 2; have c3 := Z0.out.cell 3
 simp only [List.getElem?_cons_zero, List.getElem?_cons_succ] at c0 c1 c2 c3
 go_wp2_with fail
 refine HP.out.mono ?_
 rintro e w5 ⟨rfl, hout⟩
 have HO := Lh hout
 clear hout c0 c1 c2 c3
 go_wp2_with fail
 refine bodyPost_ret (v := .slice KA l.length kc) (by simp [results]) rfl ⟨_, _, rfl, HE1.out _ _ (HO.out.kv S0.out K0.out), Or.inl rfl, HE2.out _ (HO.out.from L0'.out)⟩
end
end Go.Proofs.YtpbhgebblpdmnaaDoor
