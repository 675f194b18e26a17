/-
  The contracts of the reference's GetInts and GetStrings.
  Condition: at most 2^20 bytes.
-/
import Derived.Test.YtbfhilbagojdnaaGreatWRLen
import Derived.Test.YtbfhilbagojdnaaGreatWGets
import Derived.Test.YtbfhilbagojdnaaGreatWAux
namespace Go.Proofs.YtbfhilbagojdnaaGreat.W1
open Go.RowKit Go.Proofs.YtbfhilbagojdnaaGreat.Wr Go.Proofs.YtbfhilbagojdnaaGreat.W1.Wr
set_option linter.unusedVariables false
set_option maxRecDepth 100000

theorem own_more {w : World} {base base2 e size n : Nat} {v : Value} {xs : List Value} (h : w.ownsRow base e size v n xs) (hb : base2 ≤ base) : w.ownsRow base2 e size v n xs := own_mono h hb
theorem B8_drop (b : List UInt8) (k : Nat) : B8 (b.drop k) = (B8 b).drop k := by simp [B8]
theorem I64_one (l : List Int) : ∀ u ∈ I64 l, u.oneCell' = true := by
  intro u hu; obtain ⟨_, _, rfl⟩ := List.mem_map.1 hu; rfl
theorem I64_len (l : List Int) : (I64 l).length = l.length := by simp [I64]
set_option maxRecDepth 100000 in
set_option maxHeartbeats 4000000 in
theorem rgetInts_any (A : Option Addr) (b : List UInt8) (c : Nat) (w : World) (hr : Rd w w.heap.size A (B8 b)) (hc : b.length ≤ c) (hl : b.length ≤ 1048576) :
    Calls Tryz.prog 91 #[.slice A b.length c] w fun e w' => ∃ v', e = .returned (.tuple #[v', .int .i64 ((decInts b).2.1 : Nat), .int .i64 ((decInts b).2.2 : Nat)]) ∧
      w'.ownsRow w.heap.size 3 1 v' (decInts b).1.length (I64 (decInts b).1) ∧ Below w.heap.size w w' := by
  obtain ⟨i0, hi0, hz0, hz1, hz2⟩ := info_parts Tryz.info3
  have hcall := rcount_any A b c 1 w hr hc hl (by omega) (by omega)
  have hdef : decInts b = if (decLen 1 b).2.2 ≠ 0 then ([], 0, (decLen 1 b).2.2) else decGo decInt b (decLen 1 b).1 (decLen 1 b).2.1 [] := rfl
  rcases hd : decLen 1 b with ⟨n, u, er⟩
  rw [hd] at hcall hdef
  simp only at hcall
  have HC := Lib.hid hcall
  clear hcall
  by_cases he : er = 0
  · subst he
    obtain ⟨b1, b2, b3, b4, b5⟩ := decLen_ok hd
    simp only [ne_eq, not_true_eq_false, if_false] at hdef
    obtain ⟨R, hR⟩ : ∃ R, R = decInts b := ⟨_, rfl⟩
    rw [← hR]
    have HR := Lib.hid (show decGo decInt b n u [] = R by rw [hR, hdef])
    have hn : n ≤ b.length := Nat.le_trans b4 (Nat.le_trans (Nat.div_le_self _ _) (Nat.sub_le _ _))
    obtain ⟨L, hL⟩ : ∃ L, L = b.length := ⟨_, rfl⟩
    have HGET := Lib.hid (show ∀ (W : World) (a : Nat), a ≤ L → Below w.heap.size w W → Calls Tryz.prog 122 #[.slice (if c = a then A else A.map (·.add a)) (L - a) (c - a)] W fun e w' => e = .returned (.tuple #[.int .i64 (decInt (b.drop a)).1, .int .i64 ((decInt (b.drop a)).2.1 : Nat), .int .i64 ((decInt (b.drop a)).2.2 : Nat)]) ∧ Below W.heap.size W w' from fun W a ha hW => by
      have h1 := ((hr.cut a c (by rw [B8_len, ← hL]; exact ha) (by rw [B8_len]; exact hc)).below hW).more hW.size
      rw [← B8_drop] at h1
      have h2 := rgetInt_any _ (b.drop a) (c - a) W h1 (by rw [List.length_drop]; omega) (by rw [List.length_drop]; omega)
      rw [List.length_drop, ← hL] at h2
      exact h2)
    rw [← hL] at HC hc hl b1 hn ⊢
    have HL := Lib.hid hL
    clear hd b2 b3 b4 hdef hL hR hr
    go_enter Tryz.func91, Tryz.ntmps91
    go_wp2_with (go_at_call 121; refine HC.out.mono ?_; rintro e w1 ⟨rfl, hb1⟩)
    have HB1 := Lib.hid hb1
    clear hb1
    go_loopw [6, 8, 9] (fun s6 s8 s9 wr => ∃ (k a : Nat) (acc : List Int), k ≤ n ∧ s9 = .int .i64 (k : Int) ∧ s6 = .int .i64 (a : Int) ∧ a ≤ L ∧ Hid (acc.length = k) ∧ Hid (decGo decInt b (n - k) a acc = R) ∧ Hid (wr.ownsRow w.heap.size 3 1 s8 k (I64 acc)) ∧ Hid (Below w.heap.size w wr)) (fun _ _ s9 _ => n - (intOf s9).toNat)
    case atStart => exact ⟨0, u, [], Nat.zero_le _, rfl, rfl, b1, Lib.hid rfl, HR, Lib.hid (World.ownsRow_nil _ _ _ _), HB1⟩
    case round =>
      clear HB1
      rename World => wr
      obtain ⟨k, a, acc, hk, rfl, rfl, ha, HA, HGO, HO, HB⟩ := hrel
      by_cases hlt : k < n
      · have hlt' : (k : Int) < (n : Int) := by omega
        have hsl := slice_from A L c a ha
        have hs : R = if (decInt (b.drop a)).2.2 ≠ 0 then ([], 0, (decInt (b.drop a)).2.2) else decGo decInt b (n - (k + 1)) (a + (decInt (b.drop a)).2.1) (acc ++ [(decInt (b.drop a)).1]) := by
          rw [← HGO.out, show n - k = (n - (k + 1)) + 1 by omega]; rfl
        have hle := decInt_le (b.drop a)
        have hget := HGET.out wr a ha HB.out
        obtain ⟨A2, hA2⟩ : ∃ x, x = (if c = a then A else A.map (·.add a)) := ⟨_, rfl⟩
        rw [← hA2] at hsl hget
        clear hA2
        rcases hd2 : decInt (b.drop a) with ⟨x, m, er⟩
        rw [hd2] at hs hle hget
        simp only [List.length_drop] at hs hle hget
        rw [← HL.out] at hle
        have HG2 := Lib.hid hget
        clear hget hd2
        by_cases he : er = 0
        · subst he
          simp only [ne_eq, not_true_eq_false, if_false] at hs
          have HS := Lib.hid hs
          have hw : IntKind.i64.wrap ((a : Int) + (m : Int)) = (a : Int) + (m : Int) := IntWalk.i64_in _ (by omega)
          clear hs
          go_wp2_with (first
            | (go_at_call 122; refine HG2.out.mono ?_; rintro e w2 ⟨rfl, hb2⟩; have HB2 := Lib.hid (HB.out.trans (hb2.mono HB.out.size)); have HO2 := Lib.hid (own_below HO.out hb2); clear hb2)
            | (at_builtin; refine wpList_append_own _ rfl (.tmp 38) (.tmp 40) 50 rfl w.heap.size 3 i0 (.int .i64 0) 1 8 Tryz.underlying50 hi0 hz0 hz1 hz2 rfl (by decide) u8 k (I64 acc) rfl (HO2.out.alloc _) ⟨w2.heap.size, 0, none⟩ 1 1 (I64 [x]) rfl rfl ?c1 (I64_one _) (by unfold maxLen; omega) (by omega) (by have := HB2.out.size; simp; omega) ?_))
          case c1 =>
            intro j y hy
            rw [Addr.add_lit, Nat.zero_add, cell_of_row _ _ _ _ _ _ (heap_alloc_new w2 _)]
            simpa [I64] using hy
          intro v3 w3 ho3 hg3 _
          have HB3 := Lib.hid ((HB2.out.alloc HB2.out.size (.cells (I64 [x]).toArray 3)).grown hg3 (HB2.out.alloc HB2.out.size _).size (fun q hq => (HO2.out.lt q hq).1))
          have HO3 := Lib.hid (show w3.ownsRow w.heap.size 3 1 v3 (k + 1) (I64 (acc ++ [x])) by
            have e : I64 (acc ++ [x]) = I64 acc ++ I64 [x] := by simp [I64]
            rw [e]; exact ho3)
          clear ho3 hg3
          go_wp2_with fail
          go_roundw
          case rel => exact ⟨k + 1, a + m, acc ++ [x], hlt, by go_num, by rw [show ((a + m : Nat) : Int) = (a : Int) + (m : Int) by omega], by omega, Lib.hid (by rw [List.length_append, HA.out]; rfl), Lib.hid HS.out.symm, HO3, HB3⟩
          case measure => simp only [intOf]; omega
        · have hb := errB er he
          rw [if_pos he] at hs
          subst hs
          go_wp2_with (go_at_call 122; refine HG2.out.mono ?_; rintro e w2 ⟨rfl, hb2⟩; have HB2 := Lib.hid (HB.out.trans (hb2.mono HB.out.size)); clear hb2)
          go_ret3
          exact ⟨_, rfl, World.ownsRow_nil _ _ _ _, HB2.out⟩
      · obtain rfl : k = n := by omega
        have hs : R = (acc, a, 0) := by rw [← HGO.out, Nat.sub_self]; rfl
        subst hs
        go_wp2_with fail
        go_ret3
        exact ⟨_, rfl, by rw [HA.out]; exact HO.out, HB.out⟩
  · have hb := errB er he
    rw [if_pos he] at hdef
    rw [hdef]
    clear hdef hd
    go_enter Tryz.func91, Tryz.ntmps91
    go_wp2_with (go_at_call 121; refine HC.out.mono ?_; rintro e w' ⟨rfl, hb'⟩)
    go_ret3
    exact ⟨_, rfl, World.ownsRow_nil _ _ _ _, hb'⟩

end Go.Proofs.YtbfhilbagojdnaaGreat.W1
