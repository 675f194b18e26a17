/-
  The reference's Collide gives true where two different texts have the same digest.
  Conditions: leaves of at most 2^30 bytes, at most 4096 of them; a proof of a right form.
-/
import Derived.Test.YtofccgkgjcnfbaaDoorEqT
import Derived.Test.YtofccgkgjcnfbaaDoorRMath3
import Derived.Test.YtofccgkgjcnfbaaDoorRProve
namespace Go.Proofs.YtofccgkgjcnfbaaDoor
open Go.RowKit Wr Sh
set_option linter.unusedVariables false
set_option maxRecDepth 100000

set_option maxHeartbeats 4000000 in
/-- Short of bytes that can be read. -/
theorem short_rd (m : List UInt8) (A : Option Addr) (N c : Nat) (w : World) (hN : N = m.length) (ho : Rd w w.heap.size A (B8 m)) (hnil : A = none → c = 0) (hsz : m.length ≤ 549755813888) (ht : Tab 0 w) (R : List UInt8) (hR : Hid (R = sha m)) :
    Calls Tryd.prog 74 #[.slice A N c] w fun e w' => e = .returned (.agg (B8 (R.take 16)).toArray) ∧ Below w.heap.size w w' := by
  have HT := Lib.hid ht
  have HO := Lib.hid ho
  have HNIL := Lib.hid hnil
  have HSZ := Lib.hid hsz
  subst hN
  have HRL := Lib.hid (show R.length = 32 by rw [hR.out]; exact sha_len _)
  have HBR := Lib.hid (show (B8 R).length = 32 by rw [B8_len, HRL.out])
  obtain ⟨D, hD⟩ : ∃ D, D = R.take 16 := ⟨_, rfl⟩
  have HDL := Lib.hid (show D.length = 16 by rw [hD, List.length_take, HRL.out]; rfl)
  have HBD := Lib.hid (show (B8 D).length = 16 by rw [B8_len, HDL.out])
  rw [← hD]
  have HD := Lib.hid hD
  have HB0 := Lib.hid ((Below.refl w.heap.size w).alloc (Nat.le_refl _) (.cells (B8 (List.replicate 16 0)).toArray 29))
  have HK0 := Lib.hid (Blk.new w 29 (B8 (List.replicate 16 0)))
  have b44 : ∀ W : World, (Instr.build 29 #[]).run Tryd.prog W = .ok (.agg (B8 (List.replicate 16 0)).toArray) W := fun _ => by kernel_rfl
  have HRS := Lib.hid (fun (W : World) (hb : Below w.heap.size w W) => rsum_go m A c W ((ho.below hb).more hb.size) hnil hsz (ht.below hb ht.1) R hR)
  clear ht ho hnil hsz hD
  generalize m.length = NN at HRS ⊢
  go_enter Tryd.func74, Tryd.ntmps74
  go_upto_region 2 with (first
    | (go_at_call 98; refine (HRS.out _ HB0.out).mono ?_; rintro e w1 ⟨rfl, hb1⟩; have HB1 := Lib.hid (HB0.out.trans (hb1.mono HB0.out.size)); have K0 := Lib.hid (HK0.out.below hb1 HK0.out.lt); clear hb1)
    | (with_reducible refine wpList_store_row rfl 145 (.tmp 3) (.tmp 7) rfl w1.heap.size (B8 R).toArray rfl rfl 145 _ (heap_alloc_new w1 _) (size24' _ HRL.out) (by simp [HBR.out]) (one8 _) ?_))
  generalize hW : World.setRow _ _ _ = W1
  have f0 : Blk W1 w.heap.size 29 (B8 (List.replicate 16 0)) := by
    rw [← hW]; exact (K0.out.alloc _).setRow (Nat.ne_of_lt K0.out.lt) _
  have f1 : Blk W1 w1.heap.size 145 (B8 R) := by
    rw [← hW]; exact Blk.row (Blk.new w1 145 (B8 (List.replicate 32 0))) (B8 R)
  have HBW : Hid (Below w.heap.size w W1) := by
    rw [← hW]; exact Lib.hid (belowRow (HB1.out.alloc HB1.out.size _) HB1.out.size _)
  have hNM : w.heap.size < w1.heap.size := K0.out.lt
  obtain ⟨M, hM0⟩ : ∃ M, M = w1.heap.size := ⟨_, rfl⟩
  rw [← hM0] at f1 hNM ⊢
  clear hW hM0 K0 HB1 HK0 HB0
  rename World => wx
  go_wp2_with fail
  generalize hW2 : World.alloc _ _ = W2
  have e0 : Blk W2 w.heap.size 29 (B8 (List.replicate 16 0)) := by rw [← hW2]; exact f0.alloc _
  have e1 : Blk W2 M 145 (B8 R) := by rw [← hW2]; exact f1.alloc _
  have e2 : Blk W2 wx.heap.size 29 (B8 (outs R 0)) := by rw [← hW2]; exact Blk.new wx 29 (B8 (List.replicate 16 0))
  have HB2 : Hid (Below w.heap.size w W2) := by rw [← hW2]; exact Lib.hid (HBW.out.alloc HBW.out.size _)
  have hMX : M < wx.heap.size := f1.lt
  obtain ⟨X, hX0⟩ : ∃ X, X = wx.heap.size := ⟨_, rfl⟩
  rw [← hX0] at e2 hMX ⊢
  clear hW2 hX0 f0 f1 HBW
  go_loopw [5] (fun s5 wy => ∃ i : Nat, i ≤ 16 ∧ s5 = .int .i64 i ∧ Blk wy w.heap.size 29 (B8 (List.replicate 16 0)) ∧ Blk wy M 145 (B8 R) ∧ Blk wy X 29 (B8 (outs R i)) ∧ Hid (Below w.heap.size w wy)) (fun s5 _ => 16 - (intOf s5).toNat)
  case atStart => exact ⟨0, by omega, rfl, e0, e1, e2, HB2⟩
  case round =>
    clear e0 e1 e2 HB2
    rename World => wy
    obtain ⟨i, hi, rfl, e0, e1, e2, HB2⟩ := hrel
    by_cases hlt : i < 16
    · have hiR : i < R.length := by have := HRL.out; omega
      obtain ⟨x, hx⟩ : ∃ x, x = R[i] := ⟨_, rfl⟩
      have cx : wy.cell? ⟨M, i, none⟩ = some (.int .u8 (x.toNat : Int)) := by rw [e1.cell, B8_get _ _ hiR, hx]
      have co : wy.cell? ⟨X, i, none⟩ = some (.int .u8 0) := (e2.cell i).trans (outs_at R i HRL.out hlt)
      have fo := e2.frozen i
      have g1 : (i : Int) < 32 := by omega
      have g2 : (i : Int) < 16 := by omega
      have Hset := Lib.hid (outs_set R i x HRL.out hlt (by rw [hx, List.getElem?_eq_getElem hiR]))
      clear hx hlt
      go_wp2_with fail
      go_roundw
      case rel =>
        refine ⟨i + 1, by omega, by go_num, e0.far (show w.heap.size ≠ X by omega) _, e1.far (show M ≠ X by omega) _, ?_, Lib.hid (HB2.out.setCell (show w.heap.size ≤ X by omega) _)⟩
        have := e2.put i (.int .u8 (x.toNat : Int))
        rw [Hset.out] at this
        exact this
      case measure => simp only [intOf]; omega
    · obtain rfl : i = 16 := by omega
      rw [outs_end R, ← HD.out] at e2
      have E2 := Lib.hid e2.at
      have E0 := Lib.hid (show wy.heap[w.heap.size]? = some (.cells (B8 (List.replicate 16 0)).toArray 29 (0, 0)) from e0)
      have HSZ2 := Lib.hid (show (B8 (List.replicate 16 0)).toArray.size = (B8 D).toArray.size by rw [List.size_toArray, List.size_toArray, B8_len, B8_len, HDL.out]; rfl)
      have hbel := HB2.out
      clear e0 e1 e2
      go_wp2_with (first
        | (with_reducible refine wpList_load_at rfl 29 (.tmp 4) rfl ⟨X, 0, none⟩ rfl (B8 D) (.array 16 5) E2.out Tryd.underlying29 rfl (size44q _ HDL.out) ?_)
        | (with_reducible refine wpList_store_row rfl 29 (.tmp 2) (.tmp 18) rfl w.heap.size (B8 D).toArray rfl rfl 29 _ E0.out (size44r _ HDL.out) HSZ2.out (one8 _) ?_))
      refine bodyPost_ret (v := .agg (B8 D).toArray) ?_ rfl ⟨rfl, belowRow hbel (Nat.le_refl _) _⟩
      have hr := run_loadVar_row (P := Tryd.prog) _ w.heap.size 29 29 (B8 D).toArray (0, 0) (.array 16 5) (heap_setRow wy w.heap.size (B8 D).toArray _ 29 E0.out) Tryd.underlying29 rfl (size44r _ HDL.out)
      simp [results, asAddr, hr, Act.put]

theorem St_app (a b : List ByteArray) : St (a ++ b) = St a ++ St b := by simp [St]
theorem St_one (l : List ByteArray) : ∀ u ∈ St l, u.oneCell' = true := by
  intro u hu
  obtain ⟨_, _, rfl⟩ := List.mem_map.1 hu
  rfl
/-- An append of strings that can be read, nil or not, to a slice of the call's own. -/
theorem wp_append_strs {w : World} {o : Oper} {a : Act} {K : Act → World → Prop} {Q : Exit → Act → World → Prop} (s x : Operand)
    (ho : o.op = .call { callee := .builtin .append, args := #[s, x], argTypes := #[47, 47] })
    (base : Nat) (v : Value) (n : Nat) (xs : List Value) (hs : a.eval s = v) (hown : w.ownsRow base 9 1 v n xs)
    (A : Option Addr) (m c B : Nat) (news : List ByteArray) (hx : a.eval x = .slice A m c) (hnil : A = none → c = 0) (hl : news.length = m) (hr : Rd w B A (St news))
    (hbytes : n + m ≤ 4294967296) (hbase : base ≤ w.heap.size)
    (h : ∀ v' w', w'.ownsRow base 9 1 v' (n + m) (xs ++ St news) → w.grownBy w' v.ownBlock → K (a.put o.dst v') w') : o.wp Tryd.prog a w K Q := by
  obtain ⟨i0, hi0, hz0, hz1, hz2⟩ := info_parts info9
  have hlen : (St news).length = m * 1 := by rw [Nat.mul_one, ← hl]; simp [St]
  by_cases hne : St news = []
  · have hm : m = 0 := by rw [hne] at hlen; simp at hlen; omega
    subst hm
    cases A with
    | none =>
      have hc := hnil rfl
      subst hc
      refine Lib.wp_append_run w s x 47 47 ho v _ hs hx v w (run_append_owned_none w base 47 _ 9 i0 1 Tryd.underlying47 hi0 v n xs hown) (h v w ?_ (World.grownBy.refl _ _))
      rw [hne, List.append_nil, Nat.add_zero]; exact hown
    | some ad =>
      exact wp_append_own w s x 47 ho base 9 i0 (.string ⟨#[]⟩) 1 16 Tryd.underlying47 hi0 hz0 hz1 hz2 rfl (by decide) v n xs hs hown ad 0 c (St news) hx (by rw [hne]; rfl) (fun j u hu => by rw [hne] at hu; simp at hu) (St_one _) (by unfold maxLen; omega) (by omega) hbase (fun v' w' h1 h2 _ => h v' w' h1 h2)
  · obtain ⟨g, off, rfl, hg, hcell⟩ := hr hne
    exact wp_append_own w s x 47 ho base 9 i0 (.string ⟨#[]⟩) 1 16 Tryd.underlying47 hi0 hz0 hz1 hz2 rfl (by decide) v n xs hs hown ⟨g, off, none⟩ m c (St news) hx hlen (fun j u hu => by rw [Addr.add_lit]; exact hcell j u hu) (St_one _) (by unfold maxLen; omega) (by omega) hbase (fun v' w' h1 h2 _ => h v' w' h1 h2)
theorem txt_size (t : UInt8) (l : List ByteArray) (h : (inp t l).length ≤ 274877906944) : (txt t l).size ≤ 274877906944 := by unfold txt; rw [bs_size]; exact h
theorem rrow_sizes (L : List Lf) (first : Nat) (S : List (List UInt8)) (hL : okL L) (hS : ∀ d ∈ S, d.length = 16) (n : Nat) : ∀ (a b : Nat) (s : RS), b - a ≤ n → a < b → b ≤ first + L.length ∨ True → (∀ x ∈ s.texts, x.size ≤ 274877906944) → ∀ x ∈ (rrow L first S s a b).2.texts, x.size ≤ 274877906944 := by
  induction n with
  | zero => intro a b s h h2; omega
  | succ n ih =>
    intro a b s h hab _ hs x hx
    by_cases hc : b ≤ first ∨ first + L.length ≤ a
    · rw [rrow_told L first S hc] at hx
      unfold RS.take at hx
      split at hx <;> exact hs x hx
    · by_cases h1 : 1 < b - a
      · have := half_lt h1
        have := half_pos (b - a)
        have l1 := rrow_len L first S hS s a (a + half (b - a))
        have l2 := rrow_len L first S hS (rrow L first S s a (a + half (b - a))).2 (a + half (b - a)) b
        rw [rrow_split L first S hc h1] at hx
        simp only [RS.add, List.mem_append, List.mem_singleton] at hx
        rcases hx with hx | rfl
        · exact ih _ _ _ (by omega) (by omega) (.inr trivial) (ih _ _ _ (by omega) (by omega) (.inr trivial) hs) x hx
        · exact txt_size _ _ (inp_2 4 _ _ (by rw [bs_size]; omega) (by rw [bs_size]; omega))
      · have hi : a - first < L.length := by omega
        rw [rrow_one L first S hc (by omega)] at hx
        simp only [RS.add, List.mem_append, List.mem_singleton] at hx
        rcases hx with hx | rfl
        · exact hs x hx
        · have h3 := hL.2 L[a - first] (List.getElem_mem _)
          rw [List.getD_eq_getElem?_getD, List.getElem?_eq_getElem hi]
          exact txt_size _ _ (inp_2 3 _ _ h3.1 h3.2)
theorem texts_sizes (L : List Lf) (f : Nat) (S : List (List UInt8)) (n : Nat) (hL : okL L) (hS : ∀ d ∈ S, d.length = 16) : ∀ x ∈ textsOf L f S n, x.size ≤ 274877906944 := by
  have e9 : ∀ k : Nat, (bs (enc (k : Int))).size ≤ 1073741824 := fun k => by rw [bs_size]; have := (enc_le (k : Int)).2; omega
  intro x hx
  unfold textsOf rroot at hx
  split at hx
  · simp only [RS.add, RS.new, List.nil_append, List.mem_singleton] at hx
    subst hx; exact txt_size _ _ (inp_1 4 _ (e9 0))
  · simp only [RS.add, List.mem_append, List.mem_singleton] at hx
    rcases hx with hx | rfl
    · exact rrow_sizes L f S hL hS n 0 n RS.new (by omega) (by omega) (.inr trivial) (by simp [RS.new]) x hx
    · have l1 := rrow_len L f S hS RS.new 0 n
      exact txt_size _ _ (inp_2 4 _ _ (e9 n) (by rw [bs_size]; omega))
theorem texts_len (L : List Lf) (f : Nat) (S : List (List UInt8)) (n : Nat) : (textsOf L f S n).length ≤ 2 * n + 1 := by
  unfold textsOf rroot
  split
  · simp [RS.add, RS.new]
  · have := rrow_texts L f S n 0 n RS.new (by omega) (by omega)
    simp only [RS.add, List.length_append, List.length_singleton]
    simp only [RS.new, List.length_nil] at this
    simp only [RS.new]
    omega
/-- No two of the first texts clash. -/
def Calm (T : List ByteArray) (i k : Nat) : Prop := ∀ a b (ha : a < T.length) (hb : b < T.length), b < a → (a < i ∨ (a = i ∧ b < k)) → ¬ (T[a] ≠ T[b] ∧ digB T[a] = digB T[b])
theorem calm_all {T : List ByteArray} (h : Calm T T.length 0) : ¬ Clash T := by
  rintro ⟨x, hx, y, hy, hne, he⟩
  obtain ⟨a, ha, rfl⟩ := List.getElem_of_mem hx
  obtain ⟨b, hb, rfl⟩ := List.getElem_of_mem hy
  rcases Nat.lt_trichotomy a b with h1 | h1 | h1
  · exact h b a hb ha h1 (.inl hb) ⟨fun e => hne e.symm, he.symm⟩
  · subst h1; exact hne rfl
  · exact h a b ha hb h1 (.inl ha) ⟨hne, he⟩
end Go.Proofs.YtofccgkgjcnfbaaDoor

namespace Go.Proofs.YtofccgkgjcnfbaaDoor
open Go.RowKit Wr Sh
set_option linter.unusedVariables false
set_option maxRecDepth 100000

theorem digs_flat (T : List ByteArray) (i : Nat) (h : i < T.length) : B8 (((T.take (i + 1)).map digB).flatten) = B8 (((T.take i).map digB).flatten) ++ B8 ([digB T[i]].flatten) := by
  rw [List.take_succ_eq_append_getElem h, List.map_append, List.flatten_append, B8_append]; rfl
theorem digB_len (t : ByteArray) : (digB t).length = 16 := by unfold digB; rw [List.length_take, sha_len]; rfl
theorem digs16 (T : List ByteArray) : ∀ d ∈ T.map digB, d.length = 16 := by
  intro d hd
  obtain ⟨t, _, rfl⟩ := List.mem_map.1 hd
  exact digB_len t
set_option maxHeartbeats 16000000 in
theorem collide_any (A : Option Addr) (L : List Lf) (NL c : Nat) (p : Pf) (A1 A2 : Option Addr) (n m c1 c2 f z : Nat) (w : World) (hNL : NL = L.length) (hn : n = p.leaves.length) (hm : m = p.sides.length) (hr : Rd w w.heap.size A (LC L)) (hL : okL L) (hl4 : L.length ≤ 4096)
    (hp : PfAt w w.heap.size p A1 A2 c1 c2) (hf : p.first = (f : Int)) (hz : p.size = (z : Int)) (hz4 : z ≤ 4096) (hfz : f + n ≤ z) (ht : Tab 0 w) (hcl : Clash (textsOf L 0 [] L.length ++ textsOf p.leaves f p.sides z)) :
    Calls Tryd.prog 45 #[.slice A NL c, .agg (PR p.first p.size (.slice A1 n c1) (.slice A2 m c2)).toArray] w fun e w' => e = .returned (.bool true) ∧ Below w.heap.size w w' := by
  rw [hf, hz]
  obtain ⟨T1, hT1⟩ : ∃ T, T = textsOf L 0 [] L.length := ⟨_, rfl⟩
  obtain ⟨T2, hT2⟩ : ∃ T, T = textsOf p.leaves f p.sides z := ⟨_, rfl⟩
  obtain ⟨N1, hN1⟩ : ∃ n, n = T1.length := ⟨_, rfl⟩
  obtain ⟨N2, hN2⟩ : ∃ n, n = T2.length := ⟨_, rfl⟩
  have b1 : N1 ≤ 8193 := by rw [hN1, hT1]; have := texts_len L 0 [] L.length; omega
  have b2 : N2 ≤ 8193 := by rw [hN2, hT2]; have := texts_len p.leaves f p.sides z; omega
  obtain ⟨g0, hg0⟩ : ∃ g, g = w.heap.size := ⟨_, rfl⟩
  obtain ⟨W1, hW1⟩ : ∃ W, W = w.alloc (.cells (PR (f : Int) (z : Int) (.slice A1 n c1) (.slice A2 m c2)).toArray 54) := ⟨_, rfl⟩
  have hb1 : Below w.heap.size w W1 := by rw [hW1]; exact (Below.refl _ _).alloc (Nat.le_refl _) _
  have hs1 : W1.heap.size = w.heap.size + 1 := by rw [hW1]; simp
  obtain ⟨W2, hW2⟩ : ∃ W, W = W1.alloc (.cells #[.slice none 0 0, .slice none 0 0, .int .i64 0, .bool false] 104) := ⟨_, rfl⟩
  have hb2 : Below w.heap.size w W2 := by rw [hW2]; exact hb1.alloc hb1.size _
  have P2 := Lib.hid (show Blk W2 w.heap.size 54 (PR (f : Int) (z : Int) (.slice A1 n c1) (.slice A2 m c2)) by rw [hW2, hW1]; exact (Blk.new w 54 _).alloc _)
  obtain ⟨gs, hgs⟩ : ∃ g, g = W1.heap.size := ⟨_, rfl⟩
  have S2 := Lib.hid (show StT (gs + 1) gs none 0 0 (.slice none 0 0) RS.new W2 by rw [hW2, hgs]; exact StT.new none 0 0 W1)
  have h0 : 0 < w.heap.size := ht.1
  obtain ⟨s1, hs1'⟩ : ∃ s', rroot L 0 [] RS.new L.length = ((rroot L 0 [] RS.new L.length).1, s') := ⟨_, rfl⟩
  have e1 : s1.texts = T1 := by
    rw [hT1]; unfold textsOf; rw [hs1']
  have HC1 := Lib.hid (troot_any (gs + 1) gs A none L [] NL 0 c 0 0 (by omega) (by omega) hNL rfl hL (by simp) (by simp) (by omega) NL (.slice none 0 0) RS.new W2 (by omega) (by simp only [RS.new, List.length_nil]; omega) S2.out
    ⟨(hr.below hb2).more (by omega), Rd.nil, ht.below hb2 ht.1⟩ _ s1 (Lib.hid (by rw [hNL]; exact hs1')))
  obtain ⟨s2, hs2'⟩ : ∃ s', rroot p.leaves f p.sides RS.new z = ((rroot p.leaves f p.sides RS.new z).1, s') := ⟨_, rfl⟩
  have e2 : s2.texts = T2 := by
    rw [hT2]; unfold textsOf; rw [hs2']
  have HC2 := Lib.hid (fun (W : World) (gt : Nat) (hg : gt < W.heap.size) (hgw : w.heap.size ≤ gt) (hb : Below w.heap.size w W) (hst : StT (gt + 1) gt A2 m c2 (.slice none 0 0) RS.new W) =>
    troot_any (gt + 1) gt A1 A2 p.leaves p.sides n m c1 c2 f (by omega) (by omega) hn hm hp.okl hp.oks.2 hp.oks.1 (by omega) z (.slice none 0 0) RS.new W (by omega) (by simp only [RS.new, List.length_nil]; omega) hst
      ⟨(hp.r1.below hb).more hgw, (hp.r2.below hb).more hgw, ht.below hb ht.1⟩ _ s2 (Lib.hid hs2'))
  have HTS := Lib.hid (show ∀ x ∈ T1 ++ T2, x.size ≤ 274877906944 from fun x hx => by
    rcases List.mem_append.1 hx with h | h
    · rw [hT1] at h; exact texts_sizes L 0 [] L.length hL (by simp) x h
    · rw [hT2] at h; exact texts_sizes p.leaves f p.sides z hp.okl hp.oks.2 x h)
  rw [← hT1, ← hT2] at hcl
  have HCL := Lib.hid hcl
  have HT := Lib.hid ht
  have HW1 := Lib.hid hW1
  have HW2 := Lib.hid hW2
  have B2 := Lib.hid hb2
  have HE1 := Lib.hid e1
  have HE2 := Lib.hid e2
  have HN1 := Lib.hid hN1
  have HN2 := Lib.hid hN2
  have HGS := Lib.hid (show gs = w.heap.size + 1 by omega)
  have hPR : ∀ x y : Value, (#[.int .i64 (f : Int), .int .i64 (z : Int), x, y] : Array Value) = (PR (f : Int) (z : Int) x y).toArray := fun _ _ => rfl
  have i1 : (0 : Int) ≤ (z : Int) := by omega
  have i2 : (z : Int) ≤ 4096 := by omega
  have i3 : (0 : Int) ≤ (f : Int) := by omega
  have i4 : (f : Int) ≤ (z : Int) := by omega
  have i5 : (n : Int) ≤ (z : Int) - (f : Int) := by omega
  clear hNL hn hm hr hL hl4 hp hf hz hz4 hfz ht hcl hT1 hT2 hN1 hN2 hW1 hW2 hb1 hb2 hs1 hs1' hs2' e1 e2 hg0 g0 h0
  go_enter Tryd.func45, Tryd.ntmps45
  go_upto_region 2 with fail
  first | rw [← HW1.out] | (have hw := HW1.out; simp only [PR] at hw; rw [← hw])
  rw [← HW2.out, ← HGS.out]
  clear hgs
  go_upto_region 3 with (go_at_call 52; refine HC1.out.mono ?_; rintro e w3 ⟨rfl, vs, hst3, hfr3⟩)
  have hb3 := S2.out.belowT (by omega) hfr3
  have P3 := Lib.hid (P2.out.below hb3 (by have := HGS.out; omega))
  have B3 := Lib.hid (B2.out.trans (hb3.mono (by have := HGS.out; omega)))
  have S3 := Lib.hid hst3
  clear hst3 hfr3 hb3 HC1 S2 P2
  have q3 : w3.cell? ⟨w.heap.size, 3, none⟩ = some (.slice A2 m c2) := (P3.out.cell 3).trans rfl
  obtain ⟨W4, hW4⟩ : ∃ W, W = w3.alloc (.cells #[.slice none 0 0, .slice A2 m c2, .int .i64 0, .bool false] 104) := ⟨_, rfl⟩
  obtain ⟨gt, hgt⟩ : ∃ g, g = w3.heap.size := ⟨_, rfl⟩
  have S4 := Lib.hid (show StT (gt + 1) gt A2 m c2 (.slice none 0 0) RS.new W4 by rw [hW4, hgt]; exact StT.new A2 m c2 w3)
  have hb4 : Below w3.heap.size w3 W4 := by rw [hW4]; exact (Below.refl _ _).alloc (Nat.le_refl _) _
  have P4 := Lib.hid (P3.out.below hb4 P3.out.lt)
  have B4 := Lib.hid (B3.out.trans (hb4.mono B3.out.size))
  have T4 := Lib.hid (S3.out.below hb4)
  have HW4 := Lib.hid hW4
  have HGT := Lib.hid (show gs < gt ∧ w.heap.size ≤ gt ∧ gt < W4.heap.size by
    have h1 := S3.out.blk.lt
    have h2 := B3.out.size
    have h3 := S4.out.blk.lt
    omega)
  have HGT3 := Lib.hid (show ∀ k, ownP gs vs k → k < gt by rw [hgt]; exact S3.out.lt)
  go_upto_region 4 with fail
  rw [← hgt, ← HW4.out]
  clear hW4 hgt hb4 P3 S3 q3
  have q0 : W4.cell? ⟨w.heap.size, 0, none⟩ = some (.int .i64 (f : Int)) := (P4.out.cell 0).trans rfl
  have q1 : W4.cell? ⟨w.heap.size, 1, none⟩ = some (.int .i64 (z : Int)) := (P4.out.cell 1).trans rfl
  have q2 : W4.cell? ⟨w.heap.size, 2, none⟩ = some (.slice A1 n c1) := (P4.out.cell 2).trans rfl
  go_upto_region 6 with (go_at_call 52; refine (HC2.out W4 gt HGT.out.2.2 HGT.out.2.1 B4.out S4.out).mono ?_; rintro e w6 ⟨rfl, vt, hst6, hfr6⟩)
  have hb6 := S4.out.belowT (by omega) hfr6
  have K6 := Lib.hid (B4.out.trans (hb6.mono HGT.out.2.1))
  have X6 := Lib.hid hst6
  have Y6 := Lib.hid (T4.out.keep hb6.size (fun k _ hk => hb6.block k (HGT3.out k hk)))
  clear hst6 hfr6 hb6 HC2 q0 q1 q2 P4 B4 S4 T4
  obtain ⟨As1, cs1, rfl, _, hnil1, hrd1⟩ := own_form Y6.out.row
  obtain ⟨At1, ct1, rfl, _, hnil2, hrd2⟩ := own_form X6.out.row
  rw [HE1.out] at hrd1 Y6
  rw [HE2.out] at hrd2 X6
  have HNIL1 := Lib.hid hnil1
  have HNIL2 := Lib.hid hnil2
  have HLEN1 := HN1
  have HLEN2 := HN2
  rw [← HN1.out] at Y6
  rw [← HN2.out] at X6
  have HS6 := Lib.hid (show w6.cell? ⟨gs, 0, none⟩ = some (.slice As1 N1 cs1) ∧ w6.cell? ⟨gt, 0, none⟩ = some (.slice At1 N2 ct1) from ⟨(Y6.out.blk.cell 0).trans rfl, (X6.out.blk.cell 0).trans rfl⟩)
  have RT1 := Lib.hid (show ∀ W, Below (World.drew w6).heap.size (World.drew w6) W → Rd W W.heap.size As1 (St T1) from fun W hb => (Rd.below (w := World.drew w6) hrd1 hb).more hb.size)
  have RT2 := Lib.hid (show ∀ W, Below (World.drew w6).heap.size (World.drew w6) W → Rd W W.heap.size At1 (St T2) from fun W hb => (Rd.below (w := World.drew w6) hrd2 hb).more hb.size)
  clear hnil1 hnil2 hrd1 hrd2 X6 Y6 HE1 HE2
  go_cut [7] (fun s7 wx => ∃ A7 c7, s7 = .slice A7 (N1 + N2) c7 ∧ Hid (N1 + N2 ≤ c7 ∧ (A7 = none → c7 = 0) ∧ Rd wx wx.heap.size A7 (St (T1 ++ T2)) ∧ Below w.heap.size w wx))
  case first =>
    refine wp_region_held (S := fun W => W.cell? ⟨gs, 0, none⟩ = some (.slice As1 N1 cs1) ∧ W.cell? ⟨gt, 0, none⟩ = some (.slice At1 N2 ct1)) (by kernel_rfl) ?_
    change wpAnyH _ _ _ _ _ _ _ _ (World.drew w6)
    have hs0 : (World.drew w6).cell? ⟨gs, 0, none⟩ = some (.slice As1 N1 cs1) ∧ (World.drew w6).cell? ⟨gt, 0, none⟩ = some (.slice At1 N2 ct1) := HS6.out
    have KD := Lib.hid K6.out.drew
    have hgs0 : gs < (World.drew w6).heap.size := World.block_lt_of_cell? _ _ hs0.1
    have hgt0 : gt < (World.drew w6).heap.size := World.block_lt_of_cell? _ _ hs0.2
    generalize World.drew w6 = Wd at hs0 KD hgs0 hgt0 RT1 RT2 ⊢
    refine wpAnyH_take (i := 1) (oi := { dst := some 62, op := Op.move (Operand.tmp 5), type := 102, pos := "ref.go:277", after := #[], guard := none }) (v := .pointer (some ⟨gs, 0, none⟩)) rfl (by kernel_rfl) (by kernel_rfl) (by kernel_rfl) (fun _ _ _ h => h) (Or.inl ⟨by rfl, fun W hW => ?y1⟩) hs0 ?_
    case y1 => go_simp
    (try dsimp only [Act.put]); try simp only [z1, z2, z3]
    refine wpAnyH_take (i := 2) (oi := { dst := some 63, op := Op.nilCheck (Operand.tmp 62), type := 0, pos := "ref.go:277", after := #[{ on := 1, ground := Ground.data }], guard := none }) (v := .pointer (some ⟨gs, 0, none⟩)) rfl (by kernel_rfl) (by kernel_rfl) (by kernel_rfl) (fun _ _ _ h => h) (Or.inl ⟨by rfl, fun W hW => ?y2⟩) hs0 ?_
    case y2 => go_simp
    (try dsimp only [Act.put]); try simp only [z1, z2, z3]
    refine wpAnyH_take (i := 3) (oi := { dst := some 64, op := Op.fieldAddr 104 (Operand.tmp 63) 0, type := 0, pos := "ref.go:277", after := #[{ on := 2, ground := Ground.data }], guard := none }) (v := .pointer (some ⟨gs, 0, none⟩)) rfl (by kernel_rfl) (by kernel_rfl) (by kernel_rfl) (fun _ _ _ h => h) (Or.inl ⟨by rfl, fun W hW => ?y3⟩) hs0 ?_
    case y3 => go_simp
    (try dsimp only [Act.put]); try simp only [z1, z2, z3]
    refine wpAnyH_take (i := 4) (oi := { dst := some 65, op := Op.load 47 (Operand.tmp 64), type := 47, pos := "ref.go:277", after := #[{ on := 3, ground := Ground.data }], guard := none }) (v := .slice As1 N1 cs1) rfl (by kernel_rfl) (by kernel_rfl) (by kernel_rfl) (fun _ _ _ h => h) (Or.inl ⟨by rfl, fun W hW => by have hcl := hW.1; go_simp⟩) hs0 ?_
    (try dsimp only [Act.put]); try simp only [z1, z2, z3]
    refine wpAnyH_take (i := 6) (oi := { dst := some 67, op := Op.move (Operand.tmp 6), type := 102, pos := "ref.go:277", after := #[], guard := none }) (v := .pointer (some ⟨gt, 0, none⟩)) rfl (by kernel_rfl) (by kernel_rfl) (by kernel_rfl) (fun _ _ _ h => h) (Or.inl ⟨by rfl, fun W hW => ?y5⟩) hs0 ?_
    case y5 => go_simp
    (try dsimp only [Act.put]); try simp only [z1, z2, z3]
    refine wpAnyH_take (i := 7) (oi := { dst := some 68, op := Op.nilCheck (Operand.tmp 67), type := 0, pos := "ref.go:277", after := #[{ on := 6, ground := Ground.data }], guard := none }) (v := .pointer (some ⟨gt, 0, none⟩)) rfl (by kernel_rfl) (by kernel_rfl) (by kernel_rfl) (fun _ _ _ h => h) (Or.inl ⟨by rfl, fun W hW => ?y6⟩) hs0 ?_
    case y6 => go_simp
    (try dsimp only [Act.put]); try simp only [z1, z2, z3]
    refine wpAnyH_take (i := 8) (oi := { dst := some 69, op := Op.fieldAddr 104 (Operand.tmp 68) 0, type := 0, pos := "ref.go:277", after := #[{ on := 7, ground := Ground.data }], guard := none }) (v := .pointer (some ⟨gt, 0, none⟩)) rfl (by kernel_rfl) (by kernel_rfl) (by kernel_rfl) (fun _ _ _ h => h) (Or.inl ⟨by rfl, fun W hW => ?y7⟩) hs0 ?_
    case y7 => go_simp
    (try dsimp only [Act.put]); try simp only [z1, z2, z3]
    refine wpAnyH_take (i := 9) (oi := { dst := some 70, op := Op.load 47 (Operand.tmp 69), type := 47, pos := "ref.go:277", after := #[{ on := 8, ground := Ground.data }], guard := none }) (v := .slice At1 N2 ct1) rfl (by kernel_rfl) (by kernel_rfl) (by kernel_rfl) (fun _ _ _ h => h) (Or.inl ⟨by rfl, fun W hW => by have hcl := hW.2; go_simp⟩) hs0 ?_
    (try dsimp only [Act.put]); try simp only [z1, z2, z3]
    refine wpAnyH_ready (rs := [0]) (by kernel_rfl) (by simp) ?_
    refine AllReadyH.cons (o := { dst := some 61, op := Op.buildSlice 47 0 #[], type := 47, pos := "ref.go:277", after := #[], guard := none }) rfl (fun K hK => ?_) AllReadyH.nil
    rw [if_pos (by rfl)]
    have k1 := Lib.hid ((Below.refl Wd.heap.size Wd).alloc (Nat.le_refl _) (.cells #[] 9))
    have O1 := Lib.hid (show (Wd.alloc (.cells #[] 9)).ownsRow Wd.heap.size 9 1 (.slice (some ⟨Wd.heap.size, 0, none⟩) 0 0) 0 [] from by
      have := World.ownsRow_lit (base := Wd.heap.size) (e := 9) (size := 1) Wd #[] 0 (Nat.le_refl _) (by decide) rfl
      simpa using this)
    have hs1 : (Wd.alloc (.cells #[] 9)).cell? ⟨gs, 0, none⟩ = some (.slice As1 N1 cs1) ∧ (Wd.alloc (.cells #[] 9)).cell? ⟨gt, 0, none⟩ = some (.slice At1 N2 ct1) := ⟨(k1.out.cell (p := ⟨gs, 0, none⟩) hgs0).trans hs0.1, (k1.out.cell (p := ⟨gt, 0, none⟩) hgt0).trans hs0.2⟩
    go_simp
    refine hK.out _ _ hs1 (fun _ => ?_)
    clear hK K
    (try dsimp only [Act.put]); try simp only [z1, z2, z3]
    refine wpAnyH_ready (rs := [5]) (by kernel_rfl) (by simp) ?_
    refine AllReadyH.cons (o := { dst := some 66, op := Op.call { callee := Callee.builtin Builtin.append, args := #[Operand.tmp 61, Operand.tmp 65], argTypes := #[47, 47] }, type := 47, pos := "ref.go:277", after := #[{ on := 0, ground := Ground.data }, { on := 4, ground := Ground.data }], guard := none }) rfl (fun K hK => ?_) AllReadyH.nil
    rw [if_pos (by rfl)]
    refine wp_append_strs (.tmp 61) (.tmp 65) rfl Wd.heap.size _ 0 [] rfl O1.out As1 N1 cs1 _ T1 rfl HNIL1.out HLEN1.out.symm (RT1.out _ k1.out) (by omega) (by simp) ?_
    intro v3 w3 ho3 hg3
    have k3 := Lib.hid (below_app k1.out O1.out hg3)
    have O3 := Lib.hid (show w3.ownsRow Wd.heap.size 9 1 v3 N1 (St T1) by simpa using ho3)
    clear ho3 hg3
    have hs3 : w3.cell? ⟨gs, 0, none⟩ = some (.slice As1 N1 cs1) ∧ w3.cell? ⟨gt, 0, none⟩ = some (.slice At1 N2 ct1) := ⟨(k3.out.cell (p := ⟨gs, 0, none⟩) hgs0).trans hs0.1, (k3.out.cell (p := ⟨gt, 0, none⟩) hgt0).trans hs0.2⟩
    refine hK.out _ _ hs3 (fun _ => ?_)
    clear hK K
    (try dsimp only [Act.put]); try simp only [z1, z2, z3]
    refine wpAnyH_ready (rs := [10]) (by kernel_rfl) (by simp) ?_
    refine AllReadyH.cons (o := { dst := some 71, op := Op.call { callee := Callee.builtin Builtin.append, args := #[Operand.tmp 66, Operand.tmp 70], argTypes := #[47, 47] }, type := 47, pos := "ref.go:277", after := #[{ on := 5, ground := Ground.data }, { on := 9, ground := Ground.data }, { on := 5, ground := Ground.chain }], guard := none }) rfl (fun K hK => ?_) AllReadyH.nil
    rw [if_pos (by rfl)]
    refine wp_append_strs (.tmp 66) (.tmp 70) rfl Wd.heap.size _ N1 (St T1) rfl O3.out At1 N2 ct1 _ T2 rfl HNIL2.out HLEN2.out.symm (RT2.out _ k3.out) (by omega) k3.out.size ?_
    intro v4 w4 ho4 hg4
    have k4 := Lib.hid (below_app k3.out O3.out hg4)
    have O4 := Lib.hid (show w4.ownsRow Wd.heap.size 9 1 v4 (N1 + N2) (St (T1 ++ T2)) by rw [St_app]; exact ho4)
    clear ho4 hg4
    have hs4 : w4.cell? ⟨gs, 0, none⟩ = some (.slice As1 N1 cs1) ∧ w4.cell? ⟨gt, 0, none⟩ = some (.slice At1 N2 ct1) := ⟨(k4.out.cell (p := ⟨gs, 0, none⟩) hgs0).trans hs0.1, (k4.out.cell (p := ⟨gt, 0, none⟩) hgt0).trans hs0.2⟩
    refine hK.out _ _ hs4 (fun _ => ?_)
    clear hK K
    (try dsimp only [Act.put]); try simp only [z1, z2, z3]
    refine wpAnyH_ready (rs := [11]) (by kernel_rfl) (by simp) ?_
    refine AllReadyH.cons (o := { dst := some 7, op := Op.assign (Operand.tmp 71), type := 47, pos := "ref.go:277", after := #[{ on := 10, ground := Ground.data }, { on := 10, ground := Ground.chain }, { on := 0, ground := Ground.phase }, { on := 1, ground := Ground.phase }, { on := 2, ground := Ground.phase }, { on := 3, ground := Ground.phase }, { on := 4, ground := Ground.phase }, { on := 5, ground := Ground.phase }, { on := 6, ground := Ground.phase }, { on := 7, ground := Ground.phase }, { on := 8, ground := Ground.phase }, { on := 9, ground := Ground.phase }, { on := 10, ground := Ground.phase }], guard := none }) rfl (fun K hK => ?_) AllReadyH.nil
    rw [if_pos (by rfl)]
    go_simp
    refine hK.out _ _ hs4 (fun _ => ?_)
    clear hK K
    (try dsimp only [Act.put]); try simp only [z1, z2, z3]
    refine wpAnyH_done (by kernel_rfl) ?_ _
    (try dsimp only [Act.put]); try simp only [z1, z2, z3]
    go_wp2_with fail
    go_meet
    obtain ⟨A7, c7, rfl, h71, h72, h73⟩ := own_form O4.out
    exact ⟨A7, c7, rfl, Lib.hid ⟨h71, h72, h73, KD.out.trans (k4.out.mono KD.out.size)⟩⟩
  case rest =>
    obtain ⟨A7, c7, rfl, H7⟩ := hcut
    obtain ⟨w7, hw7⟩ : ∃ W, W = wc := ⟨_, rfl⟩
    rw [← hw7] at H7 ⊢
    obtain ⟨T, hTT⟩ : ∃ T, T = T1 ++ T2 := ⟨_, rfl⟩
    obtain ⟨NT, hNT⟩ : ∃ n, n = N1 + N2 := ⟨_, rfl⟩
    have HNT := Lib.hid (show NT = T.length by rw [hNT, hTT, List.length_append, ← HN1.out, ← HN2.out])
    have hNTb : NT ≤ 20000 := by omega
    rw [← hTT] at HCL HTS H7
    rw [← hNT] at H7 ⊢
    clear hw7 hTT hNT HN1 HN2 HLEN1 HLEN2 RT1 RT2 HS6 HNIL1 HNIL2 K6 B3 B2 b1 b2 i1 i2 i3 i4 i5 HGT HGT3 hPR
    go_upto_region 9 with fail
    go_loopw [8, 9] (fun s8 s9 wr => ∃ i : Nat, i ≤ NT ∧ s9 = .int .i64 i ∧ wr.ownsRow w7.heap.size 29 16 s8 i (B8 (((T.take i).map digB).flatten)) ∧ Hid (Calm T i 0) ∧ Hid (Below w7.heap.size w7 wr)) (fun _ s9 _ => NT - (intOf s9).toNat)
    case atStart => exact ⟨0, Nat.zero_le _, rfl, World.ownsRow_nil _ _ _ _, Lib.hid (fun a b _ _ h1 h2 => by omega), Lib.hid (Below.refl _ _)⟩
    case round =>
    obtain ⟨i, hi, rfl, ho, HNC, HB⟩ := hrel
    have HO := Lib.hid ho
    clear ho
    by_cases hlt : i < NT
    · have hil : i < T.length := by have := HNT.out; omega
      obtain ⟨g7, o7, rfl, hg7, hcell7⟩ := H7.out.2.2.1 (by intro e; have := congrArg List.length e; simp only [St, List.length_map, List.length_nil] at this; omega)
      have HC7 := Lib.hid (fun (W : World) (hb : Below w7.heap.size w7 W) (q : Nat) (hq : q < T.length) => show W.cell? ⟨g7, o7 + q, none⟩ = some (.string T[q]) from (hb.cell (p := ⟨g7, o7 + q, none⟩) hg7).trans (hcell7 q _ (St_get T q hq)))
      obtain ⟨X, hX⟩ : ∃ X, X = T[i] := ⟨_, rfl⟩
      have HX := Lib.hid hX
      have hxs : X.size ≤ 274877906944 := by rw [hX]; exact HTS.out _ (List.getElem_mem _)
      have cX : wr.cell? ⟨g7, o7 + i, none⟩ = some (.string X) := by rw [hX]; exact HC7.out wr HB.out i hil
      have hltI : (i : Int) < (NT : Int) := by omega
      obtain ⟨D, hD⟩ : ∃ D, D = digB X := ⟨_, rfl⟩
      have HDl := Lib.hid (show D.length = 16 by rw [hD]; exact digB_len X)
      have HD := Lib.hid hD
      have HDF := Lib.hid (show B8 (((T.take (i + 1)).map digB).flatten) = B8 (((T.take i).map digB).flatten) ++ B8 ([D].flatten) by rw [digs_flat T i hil, hD, hX])
      have HTW := Lib.hid (fun (W : World) (hb : Below w7.heap.size w7 W) => HT.out.below (H7.out.2.2.2.trans (hb.mono H7.out.2.2.2.size)) HT.out.1)
      obtain ⟨XS, hXS⟩ : ∃ n, n = X.size := ⟨_, rfl⟩
      have HSR := Lib.hid (fun (W : World) (A : Option Addr) (C : Nat) (hb : Below w7.heap.size w7 W) (h : Rd W W.heap.size A (B8 X.data.toList)) (hn : A = none → C = 0) => show Calls Tryd.prog 74 #[.slice A XS C] W fun e w' => e = .returned (.agg (B8 D).toArray) ∧ Below W.heap.size W w' from by
        have := short_rd X.data.toList A XS C W (by rw [hXS, size_l]) h hn (by rw [size_l]; omega) (HTW.out W hb) (sha X.data.toList) (Lib.hid rfl)
        rw [hD]; exact this)
      have HXS := Lib.hid hXS
      clear hX hD hcell7 hXS
      go_upto_region 12 with (first
        | (refine wpList_bytes_of rfl 9 39 5 (.tmp 82) rfl X rfl Tryd.underlying9 Tryd.underlying39 Tryd.underlying5 ?_; intro C w8 hC8 hrd8 hb8; rw [← HXS.out]; have B8' := Lib.hid (HB.out.trans (hb8.mono HB.out.size)); have HCS := Lib.hid (HSR.out w8 _ C B8'.out hrd8 (fun e => by cases e)); have O8 := Lib.hid (own_below HO.out hb8); clear hC8 hrd8 hb8)
        | (go_at_call 74; refine HCS.out.mono ?_; rintro e w9 ⟨rfl, hb9⟩; have B9 := Lib.hid (B8'.out.trans (hb9.mono B8'.out.size)); have O9 := Lib.hid ((own_below O8.out hb9).alloc (.cells (B8 D).toArray 29)); have R9 := Lib.hid (show Rd (w9.alloc (.cells (B8 D).toArray 29)) (w9.alloc (.cells (B8 D).toArray 29)).heap.size (some ⟨w9.heap.size, 0, none⟩) (B8 [D].flatten) from by rw [show [D].flatten = D by simp]; exact rd_new w9 (B8 D) 29); clear hb9)
        | (refine wpList_build16 rfl (.tmp 84) rfl D rfl HDl.out ?_)
        | (at_builtin; refine wpList_append_digs rfl (.tmp 78) (.tmp 85) rfl w7.heap.size _ i _ rfl O9.out (some ⟨w9.heap.size, 0, none⟩) 1 1 _ [D] rfl (fun e => by cases e) rfl (by intro d hd; rw [List.mem_singleton] at hd; rw [hd]; exact HDl.out) R9.out (by omega) (by have := B9.out.size; simp; omega) ?_; intro v10 w10 ho10 hg10; have O10 := Lib.hid ho10; have B10 := Lib.hid ((B9.out.alloc B9.out.size (.cells (B8 D).toArray 29)).grown hg10 (B9.out.alloc B9.out.size _).size (fun q hq => (O9.out.lt q hq).1)); clear ho10 hg10))
      rw [← HDF.out] at O10
      clear HO O8 O9 R9 B9 HSR HCS B8' cX
      obtain ⟨Ad, cd, rfl, _, _, hrd⟩ := own_form O10.out
      obtain ⟨gd, od, rfl, hgd, hcd⟩ := hrd (by intro e; have := congrArg List.length e; rw [B8_len, List.length_flatten, sum16 _ (digs16 _)] at this; simp at this; omega)
      have HCD := Lib.hid (fun (W : World) (hb : Below w10.heap.size w10 W) (q : Nat) (hq : q ≤ i) (hq2 : q < T.length) (r : Nat) (v : Value) (hv : (B8 (digB T[q]))[r]? = some v) => show W.cell? ((⟨gd, od + q * 16, none⟩ : Addr).add r) = some v from by
        have hql : q < ((T.take (i + 1)).map digB).length := by rw [List.length_map, List.length_take]; omega
        have hqe : ((T.take (i + 1)).map digB)[q] = digB T[q] := by rw [List.getElem_map, List.getElem_take]
        have := dig_cell _ (digs16 _) q hql r v (by rw [hqe]; exact hv)
        rw [Addr.add_lit, Nat.add_assoc]
        exact (hb.cell (p := ⟨gd, od + (q * 16 + r), none⟩) hgd).trans (hcd _ _ this))
      clear hrd hcd hgd
      go_upto_region 13 with fail
      go_loopw [10] (fun s10 wy => ∃ k : Nat, k ≤ i ∧ s10 = .int .i64 k ∧ Hid (Calm T i k) ∧ Hid (Below w10.heap.size w10 wy)) (fun s10 _ => i - (intOf s10).toNat)
      case atStart => exact ⟨0, Nat.zero_le _, rfl, HNC, Lib.hid (Below.refl _ _)⟩
      case round =>
      clear HNC
      rename World => wy
      obtain ⟨k, hk, rfl, HNC, HBY⟩ := hrel
      by_cases hki : k < i
      · have hkl : k < T.length := by omega
        have hkI : (k : Int) < (i : Int) := by omega
        have hkN : (k : Int) < (NT : Int) := by omega
        have hkd : (k : Int) < (i : Int) + 1 := by omega
        have hid1 : (i : Int) < (i : Int) + 1 := by omega
        obtain ⟨Y, hY⟩ : ∃ Y, Y = T[k] := ⟨_, rfl⟩
        obtain ⟨E, hE⟩ : ∃ E, E = digB Y := ⟨_, rfl⟩
        have HEl := Lib.hid (show E.length = 16 by rw [hE]; exact digB_len Y)
        have HSY := Lib.hid (show wy.cell? ⟨g7, o7 + i, none⟩ = some (.string X) ∧ wy.cell? ⟨g7, o7 + k, none⟩ = some (.string Y) ∧ (∀ q v, (B8 D)[q]? = some v → wy.cell? ((⟨gd, od + i * 16, none⟩ : Addr).add q) = some v) ∧ ∀ q v, (B8 E)[q]? = some v → wy.cell? ((⟨gd, od + k * 16, none⟩ : Addr).add q) = some v from by
          have hb := B10.out.trans (HBY.out.mono B10.out.size)
          refine ⟨by rw [HX.out]; exact HC7.out wy hb i hil, by rw [hY]; exact HC7.out wy hb k hkl, fun q v hv => ?_, fun q v hv => ?_⟩
          · exact HCD.out wy HBY.out i (Nat.le_refl _) hil q v (by rw [← HX.out, ← HD.out]; exact hv)
          · exact HCD.out wy HBY.out k (by omega) hkl q v (by rw [← hY, ← hE]; exact hv))
        have HY := Lib.hid hY
        have HE := Lib.hid hE
        clear hY hE
        by_cases hXY : X = Y
        · have HNC2 := Lib.hid (show Calm T i (k + 1) from fun a b ha hb h1 h2 => by
            by_cases h3 : a = i ∧ b = k
            · obtain ⟨rfl, rfl⟩ := h3
              rw [← HX.out, ← HY.out]
              exact fun h => h.1 hXY
            · exact HNC.out a b ha hb h1 (by omega))
          have hq1 : (X.toList == Y.toList) = true := by rw [hXY]; simp
          clear hXY
          go_upto_region 15 with fail
          refine wp_region_held (S := fun W => W.cell? ⟨g7, o7 + i, none⟩ = some (.string X) ∧ W.cell? ⟨g7, o7 + k, none⟩ = some (.string Y) ∧ (∀ q v, (B8 D)[q]? = some v → W.cell? ((⟨gd, od + i * 16, none⟩ : Addr).add q) = some v) ∧ ∀ q v, (B8 E)[q]? = some v → W.cell? ((⟨gd, od + k * 16, none⟩ : Addr).add q) = some v) (by kernel_rfl) ?_
          change wpAnyH _ _ _ _ _ _ _ _ (World.drew wy)
          have hs0 : (World.drew wy).cell? ⟨g7, o7 + i, none⟩ = some (.string X) ∧ (World.drew wy).cell? ⟨g7, o7 + k, none⟩ = some (.string Y) ∧ (∀ q v, (B8 D)[q]? = some v → (World.drew wy).cell? ((⟨gd, od + i * 16, none⟩ : Addr).add q) = some v) ∧ ∀ q v, (B8 E)[q]? = some v → (World.drew wy).cell? ((⟨gd, od + k * 16, none⟩ : Addr).add q) = some v := HSY.out
          have KY := Lib.hid HBY.out.drew
          generalize World.drew wy = Wd at hs0 KY ⊢
          refine wpAnyH_take (i := 0) (oi := { dst := some 92, op := Op.move (Operand.tmp 7), type := 47, pos := "ref.go:282", after := #[], guard := none }) (v := .slice (some ⟨g7, o7, none⟩) NT c7) rfl (by kernel_rfl) (by kernel_rfl) (by kernel_rfl) (fun _ _ _ h => h) (Or.inl ⟨by rfl, fun W hW => ?y1⟩) hs0 ?_
          case y1 => go_simp
          (try dsimp only [Act.put]); try simp only [z1, z2, z3]
          refine wpAnyH_take (i := 1) (oi := { dst := some 93, op := Op.move (Operand.tmp 9), type := 3, pos := "ref.go:282", after := #[], guard := none }) (v := .int .i64 (i : Int)) rfl (by kernel_rfl) (by kernel_rfl) (by kernel_rfl) (fun _ _ _ h => h) (Or.inl ⟨by rfl, fun W hW => ?y2⟩) hs0 ?_
          case y2 => go_simp
          (try dsimp only [Act.put]); try simp only [z1, z2, z3]
          refine wpAnyH_take (i := 2) (oi := { dst := some 94, op := Op.indexAddr 47 (Operand.tmp 92) (Operand.tmp 93), type := 0, pos := "ref.go:282", after := #[{ on := 0, ground := Ground.data }, { on := 1, ground := Ground.data }], guard := none }) (v := .pointer (some ⟨g7, o7 + i, none⟩)) rfl (by kernel_rfl) (by kernel_rfl) (by kernel_rfl) (fun _ _ _ h => h) (Or.inl ⟨by rfl, fun W hW => ?y3⟩) hs0 ?_
          case y3 => go_simp
          (try dsimp only [Act.put]); try simp only [z1, z2, z3]
          refine wpAnyH_take (i := 3) (oi := { dst := some 95, op := Op.load 9 (Operand.tmp 94), type := 9, pos := "ref.go:282", after := #[{ on := 2, ground := Ground.data }], guard := none }) (v := .string X) rfl (by kernel_rfl) (by kernel_rfl) (by kernel_rfl) (fun _ _ _ h => h) (Or.inl ⟨by rfl, fun W hW => by have hcl := hW.1; go_simp⟩) hs0 ?_
          (try dsimp only [Act.put]); try simp only [z1, z2, z3]
          refine wpAnyH_take (i := 4) (oi := { dst := some 96, op := Op.move (Operand.tmp 7), type := 47, pos := "ref.go:282", after := #[], guard := none }) (v := .slice (some ⟨g7, o7, none⟩) NT c7) rfl (by kernel_rfl) (by kernel_rfl) (by kernel_rfl) (fun _ _ _ h => h) (Or.inl ⟨by rfl, fun W hW => ?y5⟩) hs0 ?_
          case y5 => go_simp
          (try dsimp only [Act.put]); try simp only [z1, z2, z3]
          refine wpAnyH_take (i := 5) (oi := { dst := some 97, op := Op.move (Operand.tmp 10), type := 3, pos := "ref.go:282", after := #[], guard := none }) (v := .int .i64 (k : Int)) rfl (by kernel_rfl) (by kernel_rfl) (by kernel_rfl) (fun _ _ _ h => h) (Or.inl ⟨by rfl, fun W hW => ?y6⟩) hs0 ?_
          case y6 => go_simp
          (try dsimp only [Act.put]); try simp only [z1, z2, z3]
          refine wpAnyH_take (i := 6) (oi := { dst := some 98, op := Op.indexAddr 47 (Operand.tmp 96) (Operand.tmp 97), type := 0, pos := "ref.go:282", after := #[{ on := 4, ground := Ground.data }, { on := 5, ground := Ground.data }], guard := none }) (v := .pointer (some ⟨g7, o7 + k, none⟩)) rfl (by kernel_rfl) (by kernel_rfl) (by kernel_rfl) (fun _ _ _ h => h) (Or.inl ⟨by rfl, fun W hW => ?y7⟩) hs0 ?_
          case y7 => go_simp
          (try dsimp only [Act.put]); try simp only [z1, z2, z3]
          refine wpAnyH_take (i := 7) (oi := { dst := some 99, op := Op.load 9 (Operand.tmp 98), type := 9, pos := "ref.go:282", after := #[{ on := 6, ground := Ground.data }], guard := none }) (v := .string Y) rfl (by kernel_rfl) (by kernel_rfl) (by kernel_rfl) (fun _ _ _ h => h) (Or.inl ⟨by rfl, fun W hW => by have hcl := hW.2.1; go_simp⟩) hs0 ?_
          (try dsimp only [Act.put]); try simp only [z1, z2, z3]
          refine wpAnyH_take (i := 8) (oi := { dst := some 100, op := Op.binOp BinOp.neq 9 (Operand.tmp 95) (Operand.tmp 99) 9, type := 4, pos := "ref.go:282", after := #[{ on := 3, ground := Ground.data }, { on := 7, ground := Ground.data }], guard := none }) (v := .bool false) rfl (by kernel_rfl) (by kernel_rfl) (by kernel_rfl) (fun _ _ _ h => h) (Or.inl ⟨by rfl, fun W hW => ?y9⟩) hs0 ?_
          case y9 => go_simp
          (try dsimp only [Act.put]); try simp only [z1, z2, z3]
          refine wpAnyH_take (i := 9) (oi := { dst := some 101, op := Op.move (Operand.tmp 100), type := 4, pos := "ref.go:282", after := #[{ on := 8, ground := Ground.data }], guard := none }) (v := .bool false) rfl (by kernel_rfl) (by kernel_rfl) (by kernel_rfl) (fun _ _ _ h => h) (Or.inl ⟨by rfl, fun W hW => ?y10⟩) hs0 ?_
          case y10 => go_simp
          (try dsimp only [Act.put]); try simp only [z1, z2, z3]
          refine wpAnyH_take (i := 10) (oi := { dst := some 102, op := Op.move (Operand.tmp 8), type := 48, pos := "ref.go:282", after := #[{ on := 9, ground := Ground.guard }], guard := some (9, true) }) (v := undef) rfl (by kernel_rfl) (by kernel_rfl) (by kernel_rfl) (fun _ _ _ h => h) (Or.inr ⟨by rfl, rfl⟩) hs0 ?_
          (try dsimp only [Act.put]); try simp only [z1, z2, z3]
          refine wpAnyH_take (i := 11) (oi := { dst := some 103, op := Op.move (Operand.tmp 9), type := 3, pos := "ref.go:282", after := #[{ on := 9, ground := Ground.guard }], guard := some (9, true) }) (v := undef) rfl (by kernel_rfl) (by kernel_rfl) (by kernel_rfl) (fun _ _ _ h => h) (Or.inr ⟨by rfl, rfl⟩) hs0 ?_
          (try dsimp only [Act.put]); try simp only [z1, z2, z3]
          refine wpAnyH_take (i := 12) (oi := { dst := some 104, op := Op.indexAddr 48 (Operand.tmp 102) (Operand.tmp 103), type := 0, pos := "ref.go:282", after := #[{ on := 10, ground := Ground.data }, { on := 11, ground := Ground.data }, { on := 9, ground := Ground.guard }], guard := some (9, true) }) (v := undef) rfl (by kernel_rfl) (by kernel_rfl) (by kernel_rfl) (fun _ _ _ h => h) (Or.inr ⟨by rfl, rfl⟩) hs0 ?_
          (try dsimp only [Act.put]); try simp only [z1, z2, z3]
          refine wpAnyH_take (i := 13) (oi := { dst := some 105, op := Op.load 29 (Operand.tmp 104), type := 29, pos := "ref.go:282", after := #[{ on := 12, ground := Ground.data }, { on := 9, ground := Ground.guard }], guard := some (9, true) }) (v := undef) rfl (by kernel_rfl) (by kernel_rfl) (by kernel_rfl) (fun _ _ _ h => h) (Or.inr ⟨by rfl, rfl⟩) hs0 ?_
          (try dsimp only [Act.put]); try simp only [z1, z2, z3]
          refine wpAnyH_take (i := 14) (oi := { dst := some 106, op := Op.move (Operand.tmp 8), type := 48, pos := "ref.go:282", after := #[{ on := 9, ground := Ground.guard }], guard := some (9, true) }) (v := undef) rfl (by kernel_rfl) (by kernel_rfl) (by kernel_rfl) (fun _ _ _ h => h) (Or.inr ⟨by rfl, rfl⟩) hs0 ?_
          (try dsimp only [Act.put]); try simp only [z1, z2, z3]
          refine wpAnyH_take (i := 15) (oi := { dst := some 107, op := Op.move (Operand.tmp 10), type := 3, pos := "ref.go:282", after := #[{ on := 9, ground := Ground.guard }], guard := some (9, true) }) (v := undef) rfl (by kernel_rfl) (by kernel_rfl) (by kernel_rfl) (fun _ _ _ h => h) (Or.inr ⟨by rfl, rfl⟩) hs0 ?_
          (try dsimp only [Act.put]); try simp only [z1, z2, z3]
          refine wpAnyH_take (i := 16) (oi := { dst := some 108, op := Op.indexAddr 48 (Operand.tmp 106) (Operand.tmp 107), type := 0, pos := "ref.go:282", after := #[{ on := 14, ground := Ground.data }, { on := 15, ground := Ground.data }, { on := 9, ground := Ground.guard }], guard := some (9, true) }) (v := undef) rfl (by kernel_rfl) (by kernel_rfl) (by kernel_rfl) (fun _ _ _ h => h) (Or.inr ⟨by rfl, rfl⟩) hs0 ?_
          (try dsimp only [Act.put]); try simp only [z1, z2, z3]
          refine wpAnyH_take (i := 17) (oi := { dst := some 109, op := Op.load 29 (Operand.tmp 108), type := 29, pos := "ref.go:282", after := #[{ on := 16, ground := Ground.data }, { on := 9, ground := Ground.guard }], guard := some (9, true) }) (v := undef) rfl (by kernel_rfl) (by kernel_rfl) (by kernel_rfl) (fun _ _ _ h => h) (Or.inr ⟨by rfl, rfl⟩) hs0 ?_
          (try dsimp only [Act.put]); try simp only [z1, z2, z3]
          refine wpAnyH_take (i := 18) (oi := { dst := some 110, op := Op.binOp BinOp.eql 29 (Operand.tmp 105) (Operand.tmp 109) 29, type := 4, pos := "ref.go:282", after := #[{ on := 13, ground := Ground.data }, { on := 17, ground := Ground.data }, { on := 9, ground := Ground.guard }], guard := some (9, true) }) (v := undef) rfl (by kernel_rfl) (by kernel_rfl) (by kernel_rfl) (fun _ _ _ h => h) (Or.inr ⟨by rfl, rfl⟩) hs0 ?_
          (try dsimp only [Act.put]); try simp only [z1, z2, z3]
          refine wpAnyH_take (i := 19) (oi := { dst := some 111, op := Op.pick (Operand.tmp 101) (Operand.tmp 110) (Operand.const (Value.bool false)), type := 4, pos := "ref.go:282", after := #[{ on := 9, ground := Ground.data }, { on := 18, ground := Ground.data }], guard := none }) (v := .bool false) rfl (by kernel_rfl) (by kernel_rfl) (by kernel_rfl) (fun _ _ _ h => h) (Or.inl ⟨by rfl, fun W hW => ?y20⟩) hs0 ?_
          case y20 => go_simp
          (try dsimp only [Act.put]); try simp only [z1, z2, z3]
          refine wpAnyH_done (by kernel_rfl) ?_ _
          (try dsimp only [Act.put]); try simp only [z1, z2, z3]
          go_wp2_with fail
          go_roundw
          case rel => exact ⟨k + 1, by omega, by go_num, HNC2, Lib.hid KY.out⟩
          case measure => simp only [intOf]; omega
        · have hq1 : (X.toList == Y.toList) = false := neq_str hXY
          by_cases hDE : D = E
          · have HDE := Lib.hid (show (D == E) = true by rw [hDE]; simp)
            clear hXY hDE
            go_upto_region 15 with fail
            refine wp_region_held (S := fun W => W.cell? ⟨g7, o7 + i, none⟩ = some (.string X) ∧ W.cell? ⟨g7, o7 + k, none⟩ = some (.string Y) ∧ (∀ q v, (B8 D)[q]? = some v → W.cell? ((⟨gd, od + i * 16, none⟩ : Addr).add q) = some v) ∧ ∀ q v, (B8 E)[q]? = some v → W.cell? ((⟨gd, od + k * 16, none⟩ : Addr).add q) = some v) (by kernel_rfl) ?_
            change wpAnyH _ _ _ _ _ _ _ _ (World.drew wy)
            have hs0 : (World.drew wy).cell? ⟨g7, o7 + i, none⟩ = some (.string X) ∧ (World.drew wy).cell? ⟨g7, o7 + k, none⟩ = some (.string Y) ∧ (∀ q v, (B8 D)[q]? = some v → (World.drew wy).cell? ((⟨gd, od + i * 16, none⟩ : Addr).add q) = some v) ∧ ∀ q v, (B8 E)[q]? = some v → (World.drew wy).cell? ((⟨gd, od + k * 16, none⟩ : Addr).add q) = some v := HSY.out
            have KY := Lib.hid HBY.out.drew
            generalize World.drew wy = Wd at hs0 KY ⊢
            refine wpAnyH_take (i := 0) (oi := { dst := some 92, op := Op.move (Operand.tmp 7), type := 47, pos := "ref.go:282", after := #[], guard := none }) (v := .slice (some ⟨g7, o7, none⟩) NT c7) rfl (by kernel_rfl) (by kernel_rfl) (by kernel_rfl) (fun _ _ _ h => h) (Or.inl ⟨by rfl, fun W hW => ?y1⟩) hs0 ?_
            case y1 => go_simp
            (try dsimp only [Act.put]); try simp only [z1, z2, z3]
            refine wpAnyH_take (i := 1) (oi := { dst := some 93, op := Op.move (Operand.tmp 9), type := 3, pos := "ref.go:282", after := #[], guard := none }) (v := .int .i64 (i : Int)) rfl (by kernel_rfl) (by kernel_rfl) (by kernel_rfl) (fun _ _ _ h => h) (Or.inl ⟨by rfl, fun W hW => ?y2⟩) hs0 ?_
            case y2 => go_simp
            (try dsimp only [Act.put]); try simp only [z1, z2, z3]
            refine wpAnyH_take (i := 2) (oi := { dst := some 94, op := Op.indexAddr 47 (Operand.tmp 92) (Operand.tmp 93), type := 0, pos := "ref.go:282", after := #[{ on := 0, ground := Ground.data }, { on := 1, ground := Ground.data }], guard := none }) (v := .pointer (some ⟨g7, o7 + i, none⟩)) rfl (by kernel_rfl) (by kernel_rfl) (by kernel_rfl) (fun _ _ _ h => h) (Or.inl ⟨by rfl, fun W hW => ?y3⟩) hs0 ?_
            case y3 => go_simp
            (try dsimp only [Act.put]); try simp only [z1, z2, z3]
            refine wpAnyH_take (i := 3) (oi := { dst := some 95, op := Op.load 9 (Operand.tmp 94), type := 9, pos := "ref.go:282", after := #[{ on := 2, ground := Ground.data }], guard := none }) (v := .string X) rfl (by kernel_rfl) (by kernel_rfl) (by kernel_rfl) (fun _ _ _ h => h) (Or.inl ⟨by rfl, fun W hW => by have hcl := hW.1; go_simp⟩) hs0 ?_
            (try dsimp only [Act.put]); try simp only [z1, z2, z3]
            refine wpAnyH_take (i := 4) (oi := { dst := some 96, op := Op.move (Operand.tmp 7), type := 47, pos := "ref.go:282", after := #[], guard := none }) (v := .slice (some ⟨g7, o7, none⟩) NT c7) rfl (by kernel_rfl) (by kernel_rfl) (by kernel_rfl) (fun _ _ _ h => h) (Or.inl ⟨by rfl, fun W hW => ?y5⟩) hs0 ?_
            case y5 => go_simp
            (try dsimp only [Act.put]); try simp only [z1, z2, z3]
            refine wpAnyH_take (i := 5) (oi := { dst := some 97, op := Op.move (Operand.tmp 10), type := 3, pos := "ref.go:282", after := #[], guard := none }) (v := .int .i64 (k : Int)) rfl (by kernel_rfl) (by kernel_rfl) (by kernel_rfl) (fun _ _ _ h => h) (Or.inl ⟨by rfl, fun W hW => ?y6⟩) hs0 ?_
            case y6 => go_simp
            (try dsimp only [Act.put]); try simp only [z1, z2, z3]
            refine wpAnyH_take (i := 6) (oi := { dst := some 98, op := Op.indexAddr 47 (Operand.tmp 96) (Operand.tmp 97), type := 0, pos := "ref.go:282", after := #[{ on := 4, ground := Ground.data }, { on := 5, ground := Ground.data }], guard := none }) (v := .pointer (some ⟨g7, o7 + k, none⟩)) rfl (by kernel_rfl) (by kernel_rfl) (by kernel_rfl) (fun _ _ _ h => h) (Or.inl ⟨by rfl, fun W hW => ?y7⟩) hs0 ?_
            case y7 => go_simp
            (try dsimp only [Act.put]); try simp only [z1, z2, z3]
            refine wpAnyH_take (i := 7) (oi := { dst := some 99, op := Op.load 9 (Operand.tmp 98), type := 9, pos := "ref.go:282", after := #[{ on := 6, ground := Ground.data }], guard := none }) (v := .string Y) rfl (by kernel_rfl) (by kernel_rfl) (by kernel_rfl) (fun _ _ _ h => h) (Or.inl ⟨by rfl, fun W hW => by have hcl := hW.2.1; go_simp⟩) hs0 ?_
            (try dsimp only [Act.put]); try simp only [z1, z2, z3]
            refine wpAnyH_take (i := 8) (oi := { dst := some 100, op := Op.binOp BinOp.neq 9 (Operand.tmp 95) (Operand.tmp 99) 9, type := 4, pos := "ref.go:282", after := #[{ on := 3, ground := Ground.data }, { on := 7, ground := Ground.data }], guard := none }) (v := .bool true) rfl (by kernel_rfl) (by kernel_rfl) (by kernel_rfl) (fun _ _ _ h => h) (Or.inl ⟨by rfl, fun W hW => ?y9⟩) hs0 ?_
            case y9 => go_simp
            (try dsimp only [Act.put]); try simp only [z1, z2, z3]
            refine wpAnyH_take (i := 9) (oi := { dst := some 101, op := Op.move (Operand.tmp 100), type := 4, pos := "ref.go:282", after := #[{ on := 8, ground := Ground.data }], guard := none }) (v := .bool true) rfl (by kernel_rfl) (by kernel_rfl) (by kernel_rfl) (fun _ _ _ h => h) (Or.inl ⟨by rfl, fun W hW => ?y10⟩) hs0 ?_
            case y10 => go_simp
            (try dsimp only [Act.put]); try simp only [z1, z2, z3]
            refine wpAnyH_take (i := 10) (oi := { dst := some 102, op := Op.move (Operand.tmp 8), type := 48, pos := "ref.go:282", after := #[{ on := 9, ground := Ground.guard }], guard := some (9, true) }) (v := .slice (some ⟨gd, od, none⟩) (i + 1) cd) rfl (by kernel_rfl) (by kernel_rfl) (by kernel_rfl) (fun _ _ _ h => h) (Or.inl ⟨by rfl, fun W hW => ?y11⟩) hs0 ?_
            case y11 => go_simp
            (try dsimp only [Act.put]); try simp only [z1, z2, z3]
            refine wpAnyH_take (i := 11) (oi := { dst := some 103, op := Op.move (Operand.tmp 9), type := 3, pos := "ref.go:282", after := #[{ on := 9, ground := Ground.guard }], guard := some (9, true) }) (v := .int .i64 (i : Int)) rfl (by kernel_rfl) (by kernel_rfl) (by kernel_rfl) (fun _ _ _ h => h) (Or.inl ⟨by rfl, fun W hW => ?y12⟩) hs0 ?_
            case y12 => go_simp
            (try dsimp only [Act.put]); try simp only [z1, z2, z3]
            refine wpAnyH_take (i := 12) (oi := { dst := some 104, op := Op.indexAddr 48 (Operand.tmp 102) (Operand.tmp 103), type := 0, pos := "ref.go:282", after := #[{ on := 10, ground := Ground.data }, { on := 11, ground := Ground.data }, { on := 9, ground := Ground.guard }], guard := some (9, true) }) (v := .pointer (some ⟨gd, od + i * 16, none⟩)) rfl (by kernel_rfl) (by kernel_rfl) (by kernel_rfl) (fun _ _ _ h => h) (Or.inl ⟨by rfl, fun W hW => ?y13⟩) hs0 ?_
            case y13 => go_simp
            (try dsimp only [Act.put]); try simp only [z1, z2, z3]
            refine wpAnyH_take (i := 13) (oi := { dst := some 105, op := Op.load 29 (Operand.tmp 104), type := 29, pos := "ref.go:282", after := #[{ on := 12, ground := Ground.data }, { on := 9, ground := Ground.guard }], guard := some (9, true) }) (v := .agg (B8 D).toArray) rfl (by kernel_rfl) (by kernel_rfl) (by kernel_rfl) (fun _ _ _ h => h) (Or.inl ⟨by rfl, fun W hW => exec_load_row _ _ 29 (.tmp 104) rfl ⟨gd, od + i * 16, none⟩ rfl (B8 D) W (run_loadVar_at W _ 29 (B8 D) (.array 16 5) hW.2.2.1 Tryd.underlying29 rfl (size29 _ HDl.out))⟩) hs0 ?_
            (try dsimp only [Act.put]); try simp only [z1, z2, z3]
            refine wpAnyH_take (i := 14) (oi := { dst := some 106, op := Op.move (Operand.tmp 8), type := 48, pos := "ref.go:282", after := #[{ on := 9, ground := Ground.guard }], guard := some (9, true) }) (v := .slice (some ⟨gd, od, none⟩) (i + 1) cd) rfl (by kernel_rfl) (by kernel_rfl) (by kernel_rfl) (fun _ _ _ h => h) (Or.inl ⟨by rfl, fun W hW => ?y15⟩) hs0 ?_
            case y15 => go_simp
            (try dsimp only [Act.put]); try simp only [z1, z2, z3]
            refine wpAnyH_take (i := 15) (oi := { dst := some 107, op := Op.move (Operand.tmp 10), type := 3, pos := "ref.go:282", after := #[{ on := 9, ground := Ground.guard }], guard := some (9, true) }) (v := .int .i64 (k : Int)) rfl (by kernel_rfl) (by kernel_rfl) (by kernel_rfl) (fun _ _ _ h => h) (Or.inl ⟨by rfl, fun W hW => ?y16⟩) hs0 ?_
            case y16 => go_simp
            (try dsimp only [Act.put]); try simp only [z1, z2, z3]
            refine wpAnyH_take (i := 16) (oi := { dst := some 108, op := Op.indexAddr 48 (Operand.tmp 106) (Operand.tmp 107), type := 0, pos := "ref.go:282", after := #[{ on := 14, ground := Ground.data }, { on := 15, ground := Ground.data }, { on := 9, ground := Ground.guard }], guard := some (9, true) }) (v := .pointer (some ⟨gd, od + k * 16, none⟩)) rfl (by kernel_rfl) (by kernel_rfl) (by kernel_rfl) (fun _ _ _ h => h) (Or.inl ⟨by rfl, fun W hW => ?y17⟩) hs0 ?_
            case y17 => go_simp
            (try dsimp only [Act.put]); try simp only [z1, z2, z3]
            refine wpAnyH_take (i := 17) (oi := { dst := some 109, op := Op.load 29 (Operand.tmp 108), type := 29, pos := "ref.go:282", after := #[{ on := 16, ground := Ground.data }, { on := 9, ground := Ground.guard }], guard := some (9, true) }) (v := .agg (B8 E).toArray) rfl (by kernel_rfl) (by kernel_rfl) (by kernel_rfl) (fun _ _ _ h => h) (Or.inl ⟨by rfl, fun W hW => exec_load_row _ _ 29 (.tmp 108) rfl ⟨gd, od + k * 16, none⟩ rfl (B8 E) W (run_loadVar_at W _ 29 (B8 E) (.array 16 5) hW.2.2.2 Tryd.underlying29 rfl (size29 _ HEl.out))⟩) hs0 ?_
            (try dsimp only [Act.put]); try simp only [z1, z2, z3]
            refine wpAnyH_take (i := 18) (oi := { dst := some 110, op := Op.binOp BinOp.eql 29 (Operand.tmp 105) (Operand.tmp 109) 29, type := 4, pos := "ref.go:282", after := #[{ on := 13, ground := Ground.data }, { on := 17, ground := Ground.data }, { on := 9, ground := Ground.guard }], guard := some (9, true) }) (v := .bool true) rfl (by kernel_rfl) (by kernel_rfl) (by kernel_rfl) (fun _ _ _ h => h) (Or.inl ⟨by rfl, fun W hW => by have heq := eqi29 D E HDl.out HEl.out W; rw [HDE.out] at heq; go_simp⟩) hs0 ?_
            (try dsimp only [Act.put]); try simp only [z1, z2, z3]
            refine wpAnyH_take (i := 19) (oi := { dst := some 111, op := Op.pick (Operand.tmp 101) (Operand.tmp 110) (Operand.const (Value.bool false)), type := 4, pos := "ref.go:282", after := #[{ on := 9, ground := Ground.data }, { on := 18, ground := Ground.data }], guard := none }) (v := .bool true) rfl (by kernel_rfl) (by kernel_rfl) (by kernel_rfl) (fun _ _ _ h => h) (Or.inl ⟨by rfl, fun W hW => ?y20⟩) hs0 ?_
            case y20 => go_simp
            (try dsimp only [Act.put]); try simp only [z1, z2, z3]
            refine wpAnyH_done (by kernel_rfl) ?_ _
            (try dsimp only [Act.put]); try simp only [z1, z2, z3]
            go_wp2_with fail
            go_ret
            exact ⟨rfl, H7.out.2.2.2.trans ((B10.out.trans (KY.out.mono B10.out.size)).mono H7.out.2.2.2.size)⟩
          · have HDE := Lib.hid (show (D == E) = false by rw [beq_eq_false_iff_ne]; exact hDE)
            have HNC2 := Lib.hid (show Calm T i (k + 1) from fun a b ha hb h1 h2 => by
              by_cases h3 : a = i ∧ b = k
              · obtain ⟨rfl, rfl⟩ := h3
                rw [← HX.out, ← HY.out, ← HD.out, ← HE.out]
                exact fun h => hDE h.2
              · exact HNC.out a b ha hb h1 (by omega))
            clear hXY hDE
            go_upto_region 15 with fail
            refine wp_region_held (S := fun W => W.cell? ⟨g7, o7 + i, none⟩ = some (.string X) ∧ W.cell? ⟨g7, o7 + k, none⟩ = some (.string Y) ∧ (∀ q v, (B8 D)[q]? = some v → W.cell? ((⟨gd, od + i * 16, none⟩ : Addr).add q) = some v) ∧ ∀ q v, (B8 E)[q]? = some v → W.cell? ((⟨gd, od + k * 16, none⟩ : Addr).add q) = some v) (by kernel_rfl) ?_
            change wpAnyH _ _ _ _ _ _ _ _ (World.drew wy)
            have hs0 : (World.drew wy).cell? ⟨g7, o7 + i, none⟩ = some (.string X) ∧ (World.drew wy).cell? ⟨g7, o7 + k, none⟩ = some (.string Y) ∧ (∀ q v, (B8 D)[q]? = some v → (World.drew wy).cell? ((⟨gd, od + i * 16, none⟩ : Addr).add q) = some v) ∧ ∀ q v, (B8 E)[q]? = some v → (World.drew wy).cell? ((⟨gd, od + k * 16, none⟩ : Addr).add q) = some v := HSY.out
            have KY := Lib.hid HBY.out.drew
            generalize World.drew wy = Wd at hs0 KY ⊢
            refine wpAnyH_take (i := 0) (oi := { dst := some 92, op := Op.move (Operand.tmp 7), type := 47, pos := "ref.go:282", after := #[], guard := none }) (v := .slice (some ⟨g7, o7, none⟩) NT c7) rfl (by kernel_rfl) (by kernel_rfl) (by kernel_rfl) (fun _ _ _ h => h) (Or.inl ⟨by rfl, fun W hW => ?y1⟩) hs0 ?_
            case y1 => go_simp
            (try dsimp only [Act.put]); try simp only [z1, z2, z3]
            refine wpAnyH_take (i := 1) (oi := { dst := some 93, op := Op.move (Operand.tmp 9), type := 3, pos := "ref.go:282", after := #[], guard := none }) (v := .int .i64 (i : Int)) rfl (by kernel_rfl) (by kernel_rfl) (by kernel_rfl) (fun _ _ _ h => h) (Or.inl ⟨by rfl, fun W hW => ?y2⟩) hs0 ?_
            case y2 => go_simp
            (try dsimp only [Act.put]); try simp only [z1, z2, z3]
            refine wpAnyH_take (i := 2) (oi := { dst := some 94, op := Op.indexAddr 47 (Operand.tmp 92) (Operand.tmp 93), type := 0, pos := "ref.go:282", after := #[{ on := 0, ground := Ground.data }, { on := 1, ground := Ground.data }], guard := none }) (v := .pointer (some ⟨g7, o7 + i, none⟩)) rfl (by kernel_rfl) (by kernel_rfl) (by kernel_rfl) (fun _ _ _ h => h) (Or.inl ⟨by rfl, fun W hW => ?y3⟩) hs0 ?_
            case y3 => go_simp
            (try dsimp only [Act.put]); try simp only [z1, z2, z3]
            refine wpAnyH_take (i := 3) (oi := { dst := some 95, op := Op.load 9 (Operand.tmp 94), type := 9, pos := "ref.go:282", after := #[{ on := 2, ground := Ground.data }], guard := none }) (v := .string X) rfl (by kernel_rfl) (by kernel_rfl) (by kernel_rfl) (fun _ _ _ h => h) (Or.inl ⟨by rfl, fun W hW => by have hcl := hW.1; go_simp⟩) hs0 ?_
            (try dsimp only [Act.put]); try simp only [z1, z2, z3]
            refine wpAnyH_take (i := 4) (oi := { dst := some 96, op := Op.move (Operand.tmp 7), type := 47, pos := "ref.go:282", after := #[], guard := none }) (v := .slice (some ⟨g7, o7, none⟩) NT c7) rfl (by kernel_rfl) (by kernel_rfl) (by kernel_rfl) (fun _ _ _ h => h) (Or.inl ⟨by rfl, fun W hW => ?y5⟩) hs0 ?_
            case y5 => go_simp
            (try dsimp only [Act.put]); try simp only [z1, z2, z3]
            refine wpAnyH_take (i := 5) (oi := { dst := some 97, op := Op.move (Operand.tmp 10), type := 3, pos := "ref.go:282", after := #[], guard := none }) (v := .int .i64 (k : Int)) rfl (by kernel_rfl) (by kernel_rfl) (by kernel_rfl) (fun _ _ _ h => h) (Or.inl ⟨by rfl, fun W hW => ?y6⟩) hs0 ?_
            case y6 => go_simp
            (try dsimp only [Act.put]); try simp only [z1, z2, z3]
            refine wpAnyH_take (i := 6) (oi := { dst := some 98, op := Op.indexAddr 47 (Operand.tmp 96) (Operand.tmp 97), type := 0, pos := "ref.go:282", after := #[{ on := 4, ground := Ground.data }, { on := 5, ground := Ground.data }], guard := none }) (v := .pointer (some ⟨g7, o7 + k, none⟩)) rfl (by kernel_rfl) (by kernel_rfl) (by kernel_rfl) (fun _ _ _ h => h) (Or.inl ⟨by rfl, fun W hW => ?y7⟩) hs0 ?_
            case y7 => go_simp
            (try dsimp only [Act.put]); try simp only [z1, z2, z3]
            refine wpAnyH_take (i := 7) (oi := { dst := some 99, op := Op.load 9 (Operand.tmp 98), type := 9, pos := "ref.go:282", after := #[{ on := 6, ground := Ground.data }], guard := none }) (v := .string Y) rfl (by kernel_rfl) (by kernel_rfl) (by kernel_rfl) (fun _ _ _ h => h) (Or.inl ⟨by rfl, fun W hW => by have hcl := hW.2.1; go_simp⟩) hs0 ?_
            (try dsimp only [Act.put]); try simp only [z1, z2, z3]
            refine wpAnyH_take (i := 8) (oi := { dst := some 100, op := Op.binOp BinOp.neq 9 (Operand.tmp 95) (Operand.tmp 99) 9, type := 4, pos := "ref.go:282", after := #[{ on := 3, ground := Ground.data }, { on := 7, ground := Ground.data }], guard := none }) (v := .bool true) rfl (by kernel_rfl) (by kernel_rfl) (by kernel_rfl) (fun _ _ _ h => h) (Or.inl ⟨by rfl, fun W hW => ?y9⟩) hs0 ?_
            case y9 => go_simp
            (try dsimp only [Act.put]); try simp only [z1, z2, z3]
            refine wpAnyH_take (i := 9) (oi := { dst := some 101, op := Op.move (Operand.tmp 100), type := 4, pos := "ref.go:282", after := #[{ on := 8, ground := Ground.data }], guard := none }) (v := .bool true) rfl (by kernel_rfl) (by kernel_rfl) (by kernel_rfl) (fun _ _ _ h => h) (Or.inl ⟨by rfl, fun W hW => ?y10⟩) hs0 ?_
            case y10 => go_simp
            (try dsimp only [Act.put]); try simp only [z1, z2, z3]
            refine wpAnyH_take (i := 10) (oi := { dst := some 102, op := Op.move (Operand.tmp 8), type := 48, pos := "ref.go:282", after := #[{ on := 9, ground := Ground.guard }], guard := some (9, true) }) (v := .slice (some ⟨gd, od, none⟩) (i + 1) cd) rfl (by kernel_rfl) (by kernel_rfl) (by kernel_rfl) (fun _ _ _ h => h) (Or.inl ⟨by rfl, fun W hW => ?y11⟩) hs0 ?_
            case y11 => go_simp
            (try dsimp only [Act.put]); try simp only [z1, z2, z3]
            refine wpAnyH_take (i := 11) (oi := { dst := some 103, op := Op.move (Operand.tmp 9), type := 3, pos := "ref.go:282", after := #[{ on := 9, ground := Ground.guard }], guard := some (9, true) }) (v := .int .i64 (i : Int)) rfl (by kernel_rfl) (by kernel_rfl) (by kernel_rfl) (fun _ _ _ h => h) (Or.inl ⟨by rfl, fun W hW => ?y12⟩) hs0 ?_
            case y12 => go_simp
            (try dsimp only [Act.put]); try simp only [z1, z2, z3]
            refine wpAnyH_take (i := 12) (oi := { dst := some 104, op := Op.indexAddr 48 (Operand.tmp 102) (Operand.tmp 103), type := 0, pos := "ref.go:282", after := #[{ on := 10, ground := Ground.data }, { on := 11, ground := Ground.data }, { on := 9, ground := Ground.guard }], guard := some (9, true) }) (v := .pointer (some ⟨gd, od + i * 16, none⟩)) rfl (by kernel_rfl) (by kernel_rfl) (by kernel_rfl) (fun _ _ _ h => h) (Or.inl ⟨by rfl, fun W hW => ?y13⟩) hs0 ?_
            case y13 => go_simp
            (try dsimp only [Act.put]); try simp only [z1, z2, z3]
            refine wpAnyH_take (i := 13) (oi := { dst := some 105, op := Op.load 29 (Operand.tmp 104), type := 29, pos := "ref.go:282", after := #[{ on := 12, ground := Ground.data }, { on := 9, ground := Ground.guard }], guard := some (9, true) }) (v := .agg (B8 D).toArray) rfl (by kernel_rfl) (by kernel_rfl) (by kernel_rfl) (fun _ _ _ h => h) (Or.inl ⟨by rfl, fun W hW => exec_load_row _ _ 29 (.tmp 104) rfl ⟨gd, od + i * 16, none⟩ rfl (B8 D) W (run_loadVar_at W _ 29 (B8 D) (.array 16 5) hW.2.2.1 Tryd.underlying29 rfl (size29 _ HDl.out))⟩) hs0 ?_
            (try dsimp only [Act.put]); try simp only [z1, z2, z3]
            refine wpAnyH_take (i := 14) (oi := { dst := some 106, op := Op.move (Operand.tmp 8), type := 48, pos := "ref.go:282", after := #[{ on := 9, ground := Ground.guard }], guard := some (9, true) }) (v := .slice (some ⟨gd, od, none⟩) (i + 1) cd) rfl (by kernel_rfl) (by kernel_rfl) (by kernel_rfl) (fun _ _ _ h => h) (Or.inl ⟨by rfl, fun W hW => ?y15⟩) hs0 ?_
            case y15 => go_simp
            (try dsimp only [Act.put]); try simp only [z1, z2, z3]
            refine wpAnyH_take (i := 15) (oi := { dst := some 107, op := Op.move (Operand.tmp 10), type := 3, pos := "ref.go:282", after := #[{ on := 9, ground := Ground.guard }], guard := some (9, true) }) (v := .int .i64 (k : Int)) rfl (by kernel_rfl) (by kernel_rfl) (by kernel_rfl) (fun _ _ _ h => h) (Or.inl ⟨by rfl, fun W hW => ?y16⟩) hs0 ?_
            case y16 => go_simp
            (try dsimp only [Act.put]); try simp only [z1, z2, z3]
            refine wpAnyH_take (i := 16) (oi := { dst := some 108, op := Op.indexAddr 48 (Operand.tmp 106) (Operand.tmp 107), type := 0, pos := "ref.go:282", after := #[{ on := 14, ground := Ground.data }, { on := 15, ground := Ground.data }, { on := 9, ground := Ground.guard }], guard := some (9, true) }) (v := .pointer (some ⟨gd, od + k * 16, none⟩)) rfl (by kernel_rfl) (by kernel_rfl) (by kernel_rfl) (fun _ _ _ h => h) (Or.inl ⟨by rfl, fun W hW => ?y17⟩) hs0 ?_
            case y17 => go_simp
            (try dsimp only [Act.put]); try simp only [z1, z2, z3]
            refine wpAnyH_take (i := 17) (oi := { dst := some 109, op := Op.load 29 (Operand.tmp 108), type := 29, pos := "ref.go:282", after := #[{ on := 16, ground := Ground.data }, { on := 9, ground := Ground.guard }], guard := some (9, true) }) (v := .agg (B8 E).toArray) rfl (by kernel_rfl) (by kernel_rfl) (by kernel_rfl) (fun _ _ _ h => h) (Or.inl ⟨by rfl, fun W hW => exec_load_row _ _ 29 (.tmp 108) rfl ⟨gd, od + k * 16, none⟩ rfl (B8 E) W (run_loadVar_at W _ 29 (B8 E) (.array 16 5) hW.2.2.2 Tryd.underlying29 rfl (size29 _ HEl.out))⟩) hs0 ?_
            (try dsimp only [Act.put]); try simp only [z1, z2, z3]
            refine wpAnyH_take (i := 18) (oi := { dst := some 110, op := Op.binOp BinOp.eql 29 (Operand.tmp 105) (Operand.tmp 109) 29, type := 4, pos := "ref.go:282", after := #[{ on := 13, ground := Ground.data }, { on := 17, ground := Ground.data }, { on := 9, ground := Ground.guard }], guard := some (9, true) }) (v := .bool false) rfl (by kernel_rfl) (by kernel_rfl) (by kernel_rfl) (fun _ _ _ h => h) (Or.inl ⟨by rfl, fun W hW => by have heq := eqi29 D E HDl.out HEl.out W; rw [HDE.out] at heq; go_simp⟩) hs0 ?_
            (try dsimp only [Act.put]); try simp only [z1, z2, z3]
            refine wpAnyH_take (i := 19) (oi := { dst := some 111, op := Op.pick (Operand.tmp 101) (Operand.tmp 110) (Operand.const (Value.bool false)), type := 4, pos := "ref.go:282", after := #[{ on := 9, ground := Ground.data }, { on := 18, ground := Ground.data }], guard := none }) (v := .bool false) rfl (by kernel_rfl) (by kernel_rfl) (by kernel_rfl) (fun _ _ _ h => h) (Or.inl ⟨by rfl, fun W hW => ?y20⟩) hs0 ?_
            case y20 => go_simp
            (try dsimp only [Act.put]); try simp only [z1, z2, z3]
            refine wpAnyH_done (by kernel_rfl) ?_ _
            (try dsimp only [Act.put]); try simp only [z1, z2, z3]
            go_wp2_with fail
            go_roundw
            case rel => exact ⟨k + 1, by omega, by go_num, HNC2, Lib.hid KY.out⟩
            case measure => simp only [intOf]; omega
      · obtain rfl : k = i := by omega
        have HNC3 := Lib.hid (show Calm T (k + 1) 0 from fun a b ha hb h1 h2 => HNC.out a b ha hb h1 (by omega))
        have KB := Lib.hid (B10.out.trans (HBY.out.mono B10.out.size))
        have KO := Lib.hid (own_below O10.out HBY.out)
        go_wp2_with fail
        go_roundw
        case rel => exact ⟨k + 1, by omega, by go_num, KO.out, HNC3, KB⟩
        case measure => simp only [intOf]; omega
    · obtain rfl : i = NT := by omega
      exact absurd HCL.out (calm_all (by rw [← HNT.out]; exact HNC.out))
end Go.Proofs.YtofccgkgjcnfbaaDoor

