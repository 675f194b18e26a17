/-
  The mathematics of the texts and bytes of a ratio: what is printed is read back, what is encoded is decoded.
  No condition but that the ratio is a valid one.
-/
import Derived.Test.YtbfhilbagojdnaaGreatPv
namespace Go.Proofs.YtbfhilbagojdnaaGreat
open Go.RowKit Wr Go.Proofs.YtbfhilbagojdnaaGreat.Nm
open Go.Proofs.YtbfhilbagojdnaaGreat.W1.Wr (okInt decInts encInts)
open Go.Proofs.YtbfhilbagojdnaaGreat.W1 (encInts_le)
set_option linter.unusedVariables false

theorem dig_nat (d : Nat) (h : d < 10) : (UInt8.ofNat (48 + d)).toNat = 48 + d := by
  rw [UInt8.toNat_ofNat']; omega
theorem decX_all (n : Nat) : (decX n).all digB = true := by
  induction n using Nat.strongRecOn with
  | ind n ih =>
    by_cases h : n = 0
    · rw [h, decX_zero]; rfl
    · rw [decX_pos h, List.all_append, ih _ (Nat.div_lt_self (by omega) (by omega))]
      have hd := dig_nat (n % 10) (Nat.mod_lt _ (by omega))
      have hm : n % 10 < 10 := Nat.mod_lt _ (by omega)
      simp only [List.all_cons, List.all_nil, Bool.and_true, Bool.true_and]
      unfold digB
      rw [hd]
      exact decide_eq_true (by omega)
theorem decV_app (l : List UInt8) (b : UInt8) : decV (l ++ [b]) = (b.toNat - 48) + 10 * decV l := by
  unfold decV; rw [List.foldl_append]; rfl
theorem decV_decX (n : Nat) : decV (decX n) = n := by
  induction n using Nat.strongRecOn with
  | ind n ih =>
    by_cases h : n = 0
    · rw [h, decX_zero]; rfl
    · rw [decX_pos h, decV_app, ih _ (Nat.div_lt_self (by omega) (by omega)), dig_nat _ (Nat.mod_lt _ (by omega))]
      omega
theorem decX_head (n : Nat) (h : n ≠ 0) : ∃ b, (decX n)[0]? = some b ∧ b ≠ 48 := by
  induction n using Nat.strongRecOn with
  | ind n ih =>
    rw [decX_pos h]
    by_cases h0 : n / 10 = 0
    · rw [h0, decX_zero]
      have hd := dig_nat (n % 10) (Nat.mod_lt _ (by omega))
      refine ⟨UInt8.ofNat (48 + n % 10), rfl, fun e => ?_⟩
      rw [e] at hd
      have : (48 : UInt8).toNat = 48 := rfl
      omega
    · obtain ⟨b, hb, hn⟩ := ih _ (Nat.div_lt_self (by omega) (by omega)) h0
      refine ⟨b, ?_, hn⟩
      rw [List.getElem?_append_left (List.getElem?_eq_some_iff.1 hb).1, hb]
theorem decS_row (n : Nat) : rowOk (decS n) = true := by
  unfold decS
  split
  · decide
  · next h =>
    obtain ⟨b, hb, hn⟩ := decX_head n h
    have hne : decX n ≠ [] := by intro e; rw [e] at hb; cases hb
    unfold rowOk
    rw [decX_all, hb, decide_eq_true hne, decide_eq_true (show some b ≠ some 48 from fun e => hn (Option.some.inj e))]
    simp
theorem decV_decS (n : Nat) : decV (decS n) = n := by
  unfold decS
  split
  · next h => rw [h]; rfl
  · exact decV_decX n
theorem digs_noslash {a : List UInt8} (h : a.all digB = true) (j : Nat) : a[j]? ≠ some 47 := by
  intro e
  have hm := List.mem_of_getElem? e
  have := List.all_eq_true.1 h _ hm
  exact absurd this (by decide)
theorem cut_digs {a : List UInt8} (h : a.all digB = true) : Lib.cut a [47] = (a, [], false) := by
  have e := cut_at (l := a) (k := a.length) (Nat.le_refl _) (fun j _ => digs_noslash h j) (Or.inl rfl)
  rw [e, List.take_length, List.drop_of_length_le (by omega), decide_eq_false (by omega)]
theorem cut_slash {a : List UInt8} (b : List UInt8) (h : a.all digB = true) : Lib.cut (a ++ 47 :: b) [47] = (a, b, true) := by
  have e := cut_at (l := a ++ 47 :: b) (k := a.length) (by simp) (fun j hj => by rw [List.getElem?_append_left hj]; exact digs_noslash h j) (Or.inr (by simp))
  rw [e]
  have e1 : (a ++ 47 :: b).take a.length = a := by simp
  have e2 : (a ++ 47 :: b).drop (a.length + 1) = b := by rw [← List.drop_drop]; simp
  rw [e1, e2, decide_eq_true (by simp)]
/-- What is printed is read back. -/
theorem parse_print {r : Rt} (ho : OkR r) (h : vld r = 0) : parseR (printR r).1 = (r, 0) := by
  obtain ⟨x, y, hv, rfl⟩ := vld_to ho h
  have hx := decS_len hv.hx
  have lx : (lim x).length ≤ 64 := lim_len.2 hv.hx
  have hp := hv.pos
  by_cases h1 : y = 1
  · subst h1
    have e : (printR (lim x, dl 1)).1 = decS x := by
      unfold printR; rw [if_neg (by simp [h]), if_pos dl_one, num_lim]
    rw [e]
    unfold parseR
    rw [cut_digs (row_dig (decS_row x))]
    dsimp only
    have v0 : decV ([] : List UInt8) = 0 := rfl
    rw [decV_decS, v0, lim_zero, decS_row, if_neg (by simp), if_neg (by simp; omega), if_neg (by simp; omega), if_neg (by
      rintro (⟨h, _⟩ | h')
      · cases h
      · exact h' h)]
    rfl
  · have hdl : dl y = lim y := by unfold dl; rw [if_neg h1]
    have ly : (lim y).length ≤ 64 := lim_len.2 hv.hy
    have hy := decS_len hv.hy
    have hne : dl y ≠ [] := by rw [hdl]; intro e; have := lim_nil.1 e; omega
    have e : (printR (lim x, dl y)).1 = decS x ++ 47 :: decS y := by
      unfold printR; rw [if_neg (by simp [h]), if_neg hne, num_lim, hdl, num_lim]
    rw [e]
    unfold parseR
    rw [cut_slash _ (row_dig (decS_row x))]
    dsimp only
    rw [hdl] at h
    rw [decV_decS, decV_decS, decS_row, decS_row, if_neg (by simp), if_neg (by omega), if_neg (by omega), if_neg (by
      rintro (⟨_, h⟩ | h')
      · omega
      · exact h' h), hdl]
theorem parse_gd (l : List UInt8) : OkR (parseR l).1 ∧ (parseR l).1.1.length ≤ 1000 ∧ (parseR l).1.2.length ≤ 1000 := by
  have hno : OkR noR ∧ noR.1.length ≤ 1000 ∧ noR.2.length ≤ 1000 := ⟨⟨fun x hx => absurd hx (by simp [noR]), fun x hx => absurd hx (by simp [noR])⟩, by simp [noR], by simp [noR]⟩
  unfold parseR
  split
  · exact hno
  · split
    · exact hno
    · split
      · exact hno
      · next h =>
        split
        · exact hno
        · exact ⟨⟨lim_ok _, lim_ok _⟩, by dsimp only; omega, by dsimp only; omega⟩
theorem NbI_back {l : List Nat} (h : Ok l) : okL (NbI l) = true ∧ toL (NbI l) = l := by
  have hk : okL (NbI l) = true := by
    unfold okL
    rw [List.all_eq_true]
    intro x hx
    have := NbI_ok h x hx
    exact decide_eq_true (by omega)
  refine ⟨hk, ?_⟩
  unfold toL
  rw [if_pos hk]
  unfold NbI
  rw [List.map_map]
  have : (Int.toNat ∘ fun (x : Nat) => (x : Int)) = id := by funext x; simp
  rw [this, List.map_id]
theorem dec_enc (l : List Int) (t : List UInt8) (hn : l.length ≤ 1000000) (hl : ∀ x ∈ l, okInt x) : decInts (encInts l ++ t) = (l, (encInts l).length, 0) :=
  W1.Wr.list_there W1.Wr.codecInt l t (by omega) hl
theorem dec_parts {r : Rt} (t : List UInt8) (ho : OkR r) (l1 : r.1.length ≤ 1000) (l2 : r.2.length ≤ 1000) : (decInts (encR r.1 r.2 ++ t)).1.length ≤ 1048576 ∧ (decInts ((encR r.1 r.2 ++ t).drop (decInts (encR r.1 r.2 ++ t)).2.1)).1.length ≤ 1048576 := by
  have e1 := dec_enc (NbI r.1) (encInts (NbI r.2) ++ t) (by rw [NbI_len]; omega) (NbI_int ho.1)
  have e2 := dec_enc (NbI r.2) t (by rw [NbI_len]; omega) (NbI_int ho.2)
  have hs : encR r.1 r.2 ++ t = encInts (NbI r.1) ++ (encInts (NbI r.2) ++ t) := by unfold encR; rw [List.append_assoc]
  have hd : (encInts (NbI r.1) ++ (encInts (NbI r.2) ++ t)).drop (encInts (NbI r.1)).length = encInts (NbI r.2) ++ t := by simp
  rw [hs, e1]
  dsimp only
  rw [hd, e2]
  dsimp only
  rw [NbI_len, NbI_len]
  omega
/-- What is encoded is decoded, whatever follows. -/
theorem dec_encR {r : Rt} (t : List UInt8) (ho : OkR r) (h : vld r = 0) (l1 : r.1.length ≤ 1000) (l2 : r.2.length ≤ 1000) : decR (encR r.1 r.2 ++ t) = (r, (encR r.1 r.2).length, 0) := by
  have e1 := dec_enc (NbI r.1) (encInts (NbI r.2) ++ t) (by rw [NbI_len]; omega) (NbI_int ho.1)
  have e2 := dec_enc (NbI r.2) t (by rw [NbI_len]; omega) (NbI_int ho.2)
  have hs : encR r.1 r.2 ++ t = encInts (NbI r.1) ++ (encInts (NbI r.2) ++ t) := by unfold encR; rw [List.append_assoc]
  unfold decR
  rw [hs, e1]
  dsimp only
  have hd : (encInts (NbI r.1) ++ (encInts (NbI r.2) ++ t)).drop (encInts (NbI r.1)).length = encInts (NbI r.2) ++ t := by simp
  rw [hd, e2]
  dsimp only
  obtain ⟨k1, t1⟩ := NbI_back ho.1
  obtain ⟨k2, t2⟩ := NbI_back ho.2
  rw [t1, t2]
  rw [if_neg (by simp), if_neg (by simp), if_pos ⟨k1, k2, h⟩]
  unfold encR
  rw [List.length_append]
theorem print_ok {r : Rt} {T : List UInt8} (h : printR r = (T, 0)) : vld r = 0 := by
  unfold printR at h
  by_cases hz : vld r = 0
  · exact hz
  · rw [if_pos hz] at h
    exact absurd (Prod.mk.inj h).2 hz
theorem print_len {r : Rt} (ho : OkR r) : (printR r).1.length ≤ 2000 := by
  by_cases hz : vld r = 0
  · obtain ⟨x, y, hv, rfl⟩ := vld_to ho hz
    have hx := decS_len hv.hx
    unfold printR
    rw [if_neg (by simp [hz]), num_lim]
    split
    · show (decS x).length ≤ 2000; omega
    · next hne =>
      have h1 : y ≠ 1 := fun e => hne (by rw [e]; rfl)
      have hdl : dl y = lim y := by unfold dl; rw [if_neg h1]
      have hy := decS_len hv.hy
      show (decS x ++ 47 :: decS (num (dl y))).length ≤ 2000
      rw [hdl, num_lim, List.length_append, List.length_cons]
      omega
  · unfold printR
    rw [if_pos hz]
    exact Nat.zero_le _
theorem encR_len {r : Rt} (l1 : r.1.length ≤ 1000) (l2 : r.2.length ≤ 1000) : 1 ≤ (encR r.1 r.2).length ∧ (encR r.1 r.2).length ≤ 100000 := by
  have e1 := encInts_le (NbI r.1); have e2 := encInts_le (NbI r.2)
  rw [NbI_len] at e1 e2
  unfold encR
  rw [List.length_append]
  omega
theorem bw_form {w : World} {v : Value} {b : List UInt8} (h : Bw w v b) : ∃ A c, v = .slice A b.length c ∧ (A = none → c = 0) ∧ Rd w w.heap.size A (B8 b) := by
  obtain ⟨A, c, e, _, hn, hr⟩ := h; exact ⟨A, c, e, hn, hr⟩
theorem bsame_true {w : World} {v u : Value} {b : List UInt8} (h1 : Bw w v b) (h2 : Bw w u b) (hl : b.length ≤ 1099511627776) : Calls Tryz.prog 28 #[v, u] w (SmP w true) := by
  obtain ⟨A, c, rfl, _, hr⟩ := bw_form h1
  obtain ⟨A2, c2, rfl, _, hr2⟩ := bw_form h2
  refine (W1.same_any A A2 b b c c2 w w.heap.size hr hr2 hl hl).mono ?_
  rintro e w' ⟨rfl, q, rfl⟩
  exact ⟨by rw [decide_eq_true rfl], below_drewN (Below.refl _ _) q⟩
theorem rsame_true {w : World} {v1 v2 u1 u2 : Value} {r : Rt} (h1 : Rk w v1 v2 r) (h2 : Rk w u1 u2 r) : Calls Tryz.prog 15 #[.agg #[v1, v2], .agg #[u1, u2]] w (SmP w true) := by
  have h := rsame_any h1 h2
  rw [decide_eq_true rfl] at h
  exact h
/-- Two appends to a new row: what the first one appended, and what the second did. -/
theorem dec_two {w : World} {v : Value} {r : Rt} {rest : List UInt8} (ho : OkR r) (h : vld r = 0) (l1 : r.1.length ≤ 1000) (l2 : r.2.length ≤ 1000) (hb : Bw w v (encR r.1 r.2 ++ rest)) (hr : rest.length ≤ 1048576) : Calls Tryz.prog 33 #[v] w (DeP w (r, (encR r.1 r.2).length, 0)) := by
  have e := encR_len l1 l2
  have hd := decode_any hb (by rw [List.length_append]; omega) (dec_parts rest ho l1 l2)
  rw [dec_encR rest ho h l1 l2] at hd
  exact hd
theorem parse_two {w : World} {r : Rt} {T : List UInt8} (hM : MaxL w) (h2 : 2 < w.heap.size) (ho : OkR r) (h : printR r = (T, 0)) : Calls Tryz.prog 32 #[.string ⟨T.toArray⟩] w (RtP w (r, 0)) := by
  have hz := print_ok h
  have hl := print_len ho
  have hp := parse_print ho hz
  rw [h] at hl hp
  have hl : T.length ≤ 2000 := hl
  have e := parse_wide T w hM h2 (by omega)
  rw [show parseR T = (r, 0) from hp] at e
  exact e
end Go.Proofs.YtbfhilbagojdnaaGreat
