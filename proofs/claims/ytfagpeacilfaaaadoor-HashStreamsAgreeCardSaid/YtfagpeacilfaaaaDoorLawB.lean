/-
  The law HashMacKeys returns true, whatever the key and the text.
  Condition: the table of the round constants is as the text lays it; the strings are no longer than a machine's.
-/
import Derived.Test.YtfagpeacilfaaaaDoorSane
import Derived.Outline
import Derived.Laws.IdiomStrings
import Derived.Laws.AppendOwn
namespace Go.Proofs.YtfagpeacilfaaaaDoor
open Go.RowKit Wr Sh
set_option linter.unusedVariables false

/-- []byte(s): a new slice of s's bytes. -/
theorem wpList_bytes_of {P : Program} {w : World} {ops : Array Oper} {rest : List Oper} {o : Oper} {a : Act} {Q : Exit → Act → World → Prop} (hgd : o.guard = none) (src dst e : TypeId) (x : Operand) (ho : o.op = .convert src dst x)
    (s : ByteArray) (hx : a.eval x = .string s) (hs : P.underlying src = some .string) (hd : P.underlying dst = some (.slice e)) (he : P.underlying e = some (.int .u8))
    (h : ∀ (C : Nat) (W : World), s.size ≤ C → Rd W W.heap.size (some ⟨w.heap.size, 0, none⟩) (B8 s.data.toList) → Below w.heap.size w W → wpList P ops Q rest (a.put o.dst (.slice (some ⟨w.heap.size, 0, none⟩) s.size C)) W) :
    wpList P ops Q (o :: rest) a w := by
  refine wpList_plain hgd fun K hK => ?_
  have hrun := run_bytes_of_string (P := P) w src dst e s hs hd he
  have h2 := h (grownCap w s.size 0 e) _ (grownCap_ge w s.size 0 e) (fun _ => ⟨w.heap.size, 0, rfl, by simp, fun j u hu => by
    rw [Nat.zero_add]
    refine (cell_of_row _ w.heap.size j _ _ _ (heap_alloc_new w.drew _)).trans ?_
    have hj := (List.getElem?_eq_some_iff.1 hu).1
    rw [B8_len] at hj
    rw [B8_get _ _ hj] at hu
    rw [bytesRow_at s _ j (by simpa using hj), ← hu]
    rfl⟩) ((Below.refl w.heap.size w).drew.alloc (Nat.le_refl _) (.cells (bytesRow s (grownCap w s.size 0 e)) e ((bytesRow s (grownCap w s.size 0 e)).size, (bytesRow s (grownCap w s.size 0 e)).size + 1)))
  unfold Oper.wp execOp
  simp only [ho, hx, Sem.run_bind, hrun, Result.andThen_ok, Sem.run_pure]
  exact hK _ _ h2
theorem hsum_s (s : ByteArray) (A : Option Addr) (c : Nat) (w : World) (hr : Rd w w.heap.size A (B8 s.data.toList)) (hc : s.size ≤ c) (hsz : s.size ≤ 549755813888) (ht : Tab 1 w) (R : List UInt8) (hR : Hid (R = sha s.data.toList)) :
    Calls Tryd.prog 11 #[.slice A s.size c] w fun e w' => e = .returned (.agg (B8 R).toArray) ∧ Below w.heap.size w w' := by
  have := hsum_go s.data.toList A c w hr (by rw [size_l]; exact hc) (by rw [size_l]; exact hsz) ht R hR
  rw [size_l] at this; exact this
theorem mac_long (k t : List UInt8) (h : 64 < k.length) : mac (sha k) t = mac k t := by
  have e1 : hkey k = sha k := by unfold hkey; rw [if_pos h]
  have e2 : hkey (sha k) = sha k := by unfold hkey; rw [if_neg (by rw [sha_len]; omega)]
  unfold mac; rw [e1, e2]
theorem mac_zero (k t : List UInt8) (h : k.length < 64) : mac (k ++ [0]) t = mac k t := by
  have e1 : hkey k = k := by unfold hkey; rw [if_neg (by omega)]
  have e2 : hkey (k ++ [0]) = k ++ [0] := by unfold hkey; rw [if_neg (by simp; omega)]
  have e3 : ext64 (k ++ [0]) = ext64 k := by
    unfold ext64
    have : 64 - k.length = (64 - (k ++ [0]).length) + 1 := by simp; omega
    rw [this, List.replicate_succ, List.append_assoc]; rfl
  unfold mac padk; rw [e1, e2, e3]
theorem mac_len (k t : List UInt8) : (mac k t).length = 32 := sha_len _
theorem data_zero (a : ByteArray) : (a ++ { data := #[0] } : ByteArray).data.toList = a.data.toList ++ [0] := by simp
theorem size_zero (a : ByteArray) : (a ++ { data := #[0] } : ByteArray).size = a.size + 1 := by rw [← size_l, data_zero, List.length_append, size_l]; rfl

set_option maxRecDepth 100000 in
set_option maxHeartbeats 4000000 in
theorem keys_walk (a b : ByteArray) (w : World) (ha : a.size ≤ 281474976710656) (hb : b.size ≤ 281474976710656) (ht : Tab 1 w) :
    Calls Tryd.prog 6 #[.string a, .string b] w fun e w' => e = .returned (.bool true) ∧ Below w.heap.size w w' := by
  have HT := Lib.hid ht
  clear ht
  by_cases h1 : 400 < a.size
  · go_enter Tryd.func6, Tryd.ntmps6
    go_wp2_with (go_at_call 10; refine (sanity_any _ HT.out).mono ?_; rintro e w1 ⟨rfl, hb1⟩)
    go_ret
    exact ⟨rfl, hb1⟩
  by_cases h2 : 400 < b.size
  · go_enter Tryd.func6, Tryd.ntmps6
    go_wp2_with (go_at_call 10; refine (sanity_any _ HT.out).mono ?_; rintro e w1 ⟨rfl, hb1⟩)
    go_ret
    exact ⟨rfl, hb1⟩
  obtain ⟨R, hR⟩ : ∃ R, R = mac a.data.toList b.data.toList := ⟨_, rfl⟩
  have HR : Hid (R = mac a.data.toList b.data.toList) := Lib.hid hR
  have HT1 : ∀ W, Below w.heap.size w W → Tab 1 W := fun W hW => HT.out.below hW HT.out.1
  clear hR
  by_cases h3 : 64 < a.size
  · have h3' : (64 : Int) < (a.size : Int) := by omega
    obtain ⟨S, hS⟩ : ∃ S, S = sha a.data.toList := ⟨_, rfl⟩
    have HS : Hid (S = sha a.data.toList) := Lib.hid hS
    have HSl : Hid (S.length = 32) := Lib.hid (by rw [hS]; exact sha_len _)
    have HR2 : Hid (R = mac (⟨S.toArray⟩ : ByteArray).data.toList b.data.toList) := Lib.hid (by
      show R = mac S b.data.toList
      rw [HR.out, hS, mac_long _ _ (by rw [size_l]; exact h3)])
    have hS2 : (⟨S.toArray⟩ : ByteArray).size ≤ 274877906944 := by show S.toArray.size ≤ _; rw [List.size_toArray, HSl.out]; decide
    have HS2 := Lib.hid hS2
    clear hS hS2
    go_enter Tryd.func6, Tryd.ntmps6
    go_wp2_with (first
      | (go_at_call 10; refine (sanity_any _ HT.out).mono ?_; rintro e w1 ⟨rfl, hb1⟩)
      | (go_at_call 18; (with_reducible refine (mac_go a b _ (by omega) (by omega) (HT1 _ (by assumption)) R HR).mono ?_); rintro e w2 ⟨rfl, hb2⟩; replace hb2 : Below w.heap.size w w2 := hb1.trans (hb2.mono hb1.size); clear hb1)
      | (with_reducible refine wpList_bytes_of rfl 9 22 5 (.tmp 24) rfl a rfl Tryd.underlying9 Tryd.underlying22 Tryd.underlying5 ?_; intro C w3 hC hrd hb3; have HRD := Lib.hid hrd; replace hb3 : Below w.heap.size w w3 := hb2.trans (hb3.mono hb2.size); clear hb2 hrd)
      | (go_at_call 11; refine (hsum_s a _ C w3 HRD.out hC (by omega) (HT1 _ hb3) S HS).mono ?_; rintro e w4 ⟨rfl, hb4⟩; replace hb4 : Below w.heap.size w w4 := hb3.trans (hb4.mono hb3.size); clear hb3)
      | (go_at_call 20; refine (bytes32_any S _ HSl.out).mono ?_; rintro e w5 ⟨rfl, hb5⟩; replace hb5 : Below w.heap.size w w5 := hb4.trans (hb5.mono hb4.size); clear hb4)
      | (go_at_call 18; (with_reducible refine (mac_go ⟨S.toArray⟩ b _ HS2.out (by omega) (HT1 _ hb5) R HR2).mono ?_); rintro e w6 ⟨rfl, hb6⟩; replace hb6 : Below w.heap.size w w6 := hb5.trans (hb6.mono hb5.size); clear hb5))
    go_ret
    exact ⟨rfl, hb6⟩
  by_cases h4 : a.size < 64
  · have h4' : (a.size : Int) < (64 : Int) := by omega
    have HR2 : Hid (R = mac (a ++ { data := #[0] } : ByteArray).data.toList b.data.toList) := Lib.hid (by
      rw [HR.out, data_zero, mac_zero _ _ (by rw [size_l]; exact h4)])
    go_enter Tryd.func6, Tryd.ntmps6
    go_wp2_with (first
      | (go_at_call 10; refine (sanity_any _ HT.out).mono ?_; rintro e w1 ⟨rfl, hb1⟩)
      | (go_at_call 18; (with_reducible refine (mac_go a b _ (by omega) (by omega) (HT1 _ (by assumption)) R HR).mono ?_); rintro e w2 ⟨rfl, hb2⟩; replace hb2 : Below w.heap.size w w2 := hb1.trans (hb2.mono hb1.size); clear hb1)
      | (go_at_call 18; (with_reducible refine (mac_go (a ++ { data := #[0] }) b _ (by rw [size_zero]; omega) (by omega) (HT1 _ hb2) R HR2).mono ?_); rintro e w6 ⟨rfl, hb6⟩; replace hb6 : Below w.heap.size w w6 := hb2.trans (hb6.mono hb2.size); clear hb2))
    go_ret
    exact ⟨rfl, hb6⟩
  · have h5 : ¬ (64 : Int) < (a.size : Int) := by omega
    have h6 : ¬ (a.size : Int) < (64 : Int) := by omega
    have hl : ((R.length : Int) == 32) = true := by
      have : R.length = 32 := by rw [HR.out, mac_len]
      rw [this]; rfl
    go_enter Tryd.func6, Tryd.ntmps6
    go_wp2_with (first
      | (go_at_call 10; refine (sanity_any _ HT.out).mono ?_; rintro e w1 ⟨rfl, hb1⟩)
      | (go_at_call 18; (with_reducible refine (mac_go a b _ (by omega) (by omega) (HT1 _ (by assumption)) R HR).mono ?_); rintro e w2 ⟨rfl, hb2⟩; replace hb2 : Below w.heap.size w w2 := hb1.trans (hb2.mono hb1.size); clear hb1))
    go_ret
    exact ⟨rfl, hb2⟩
end Go.Proofs.YtfagpeacilfaaaaDoor
