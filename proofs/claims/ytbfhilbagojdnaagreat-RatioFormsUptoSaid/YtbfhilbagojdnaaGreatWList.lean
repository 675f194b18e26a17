/-
  The contracts of wire.getList at integers: they return the decoding of the list at the beginning of the bytes.
  No condition but that the bytes can be read; at most 2^30 of them.
-/
import Derived.Test.YtbfhilbagojdnaaGreatWNext
import Derived.BigQuiet
namespace Go.Proofs.YtbfhilbagojdnaaGreat.W1
open Go.RowKit Go.Proofs.YtbfhilbagojdnaaGreat.Wr Go.Proofs.YtbfhilbagojdnaaGreat.W1.Wr
set_option linter.unusedVariables false
set_option maxRecDepth 100000

theorem Blk.at_ {w : World} {g : Nat} {t : TypeId} {cs : List Value} (h : w.heap.size = g) : Blk (w.alloc (.cells cs.toArray t)) g t cs := h ▸ Blk.new w t cs
theorem own_mono {w : World} {base base2 e size n : Nat} {v : Value} {xs : List Value} (h : w.ownsRow base e size v n xs) (hb : base2 ≤ base) : w.ownsRow base2 e size v n xs := by
  obtain ⟨h1, h2⟩ := h
  refine ⟨h1, ?_⟩
  rcases h2 with h2 | ⟨g, cap, cur, hv, hg, hh, r⟩
  · exact Or.inl h2
  · exact Or.inr ⟨g, cap, cur, hv, Nat.le_trans hb hg, hh, r⟩

set_option maxRecDepth 100000 in
set_option maxHeartbeats 1000000 in
theorem getList_int (A : Option Addr) (b : List UInt8) (c : Nat) (w : World) (hr : Rd w w.heap.size A (B8 b)) (hc : b.length ≤ c) (hl : b.length ≤ 1073741824) :
    Calls Tryz.prog 119 #[.slice A b.length c, .int .i64 1, .func (.func 120) #[] #[]] w fun e w' => ∃ v', e = .returned (.tuple #[v', .int .i64 ((decInts b).2.1 : Nat), .int .i64 ((decInts b).2.2 : Nat)]) ∧
      w'.ownsRow w.heap.size 3 1 v' (decInts b).1.length (I64 (decInts b).1) ∧ Below w.heap.size w w' := by
  have hcall : ∀ W : World, Below w.heap.size w W → Calls Tryz.prog 133 #[.slice A b.length c, .int .i64 1] W fun e w' => e = .returned (.tuple #[.int .i64 ((decLen 1 b).1 : Nat), .int .i64 ((decLen 1 b).2.1 : Nat), .int .i64 ((decLen 1 b).2.2 : Nat)]) ∧ W = w' :=
    fun W hW => getLength_any A b c 1 W w.heap.size (hr.below hW) hc (by omega) (by omega) (by omega)
  have hdef : decInts b = if (decLen 1 b).2.2 ≠ 0 then ([], 0, (decLen 1 b).2.2) else decGo decInt b (decLen 1 b).1 (decLen 1 b).2.1 [] := rfl
  rcases hd : decLen 1 b with ⟨n, u, er⟩
  rw [hd] at hdef
  simp only [hd] at hcall
  have HC := Lib.hid hcall
  clear hcall
  by_cases he : er = 0
  · subst he
    obtain ⟨b1, b2, b3, b4, b5⟩ := decLen_ok hd
    have hu := enc_le (n : Int)
    rw [← b3] at hu
    simp only [ne_eq, not_true_eq_false, if_false] at hdef
    rw [hdef]
    have hn : n ≤ b.length := Nat.le_trans b4 (Nat.le_trans (Nat.div_le_self _ _) (Nat.sub_le _ _))
    skip
    clear hd b2 b3 hdef b4
    obtain ⟨H, hH⟩ : ∃ H, H = w.heap.size := ⟨_, rfl⟩
    have HH := Lib.hid hH
    clear hH
    obtain ⟨L, hL⟩ : ∃ L, L = b.length := ⟨_, rfl⟩
    have HL := Lib.hid hL
    clear hL
    go_enter Tryz.func119, Tryz.ntmps119
    go_wp2_with (go_at_call 133; refine (HC.out _ (((Below.refl _ _).alloc (Nat.le_refl _) _).alloc (by simp) _)).mono ?_; rintro e w' ⟨rfl, rfl⟩)
    go_loopw [27] (fun s27 wr => ∃ (k at_ : Nat) (acc : List Int) (v : Value), k ≤ n ∧ s27 = .int .i64 k ∧ acc.length = k ∧ at_ ≤ b.length ∧  decGo decInt b (n - k) at_ acc = decGo decInt b n u [] ∧
        Blk wr (w.heap.size + 1) 111 [.func (.func 120) #[] #[]] ∧ Blk wr w.heap.size 38 [.slice A b.length c] ∧ Blk wr (w.heap.size + 2) 3 [.int .i64 at_] ∧ Blk wr (w.heap.size + 3) 50 [v] ∧
        wr.ownsRow (w.heap.size + 4) 3 1 v k (I64 acc) ∧ Below w.heap.size w wr ∧ w.heap.size + 4 ≤ wr.heap.size)
      (fun s27 _ => n - (intOf s27).toNat)
    case atStart =>
      exact ⟨0, u, [], .slice none 0 0, Nat.zero_le _, rfl, rfl, b1,  rfl, ((Blk.at_ (by simp)).alloc _).alloc _, (((Blk.at_ rfl).alloc _).alloc _).alloc _, (Blk.at_ (by simp)).alloc _, Blk.at_ (by simp),
        World.ownsRow_nil _ _ _ _, (((((Below.refl _ _).alloc (Nat.le_refl _) _).alloc (by simp) _).alloc (by simp; omega) _).alloc (by simp; omega) _), by simp⟩
    case round =>
      obtain ⟨k, at_, acc, v, hk, rfl, hacc, hat,  hgo, k0, k1, k2, k3, hown, hbel, hsz⟩ := hrel
      have Hgo := Lib.hid hgo
      have Hacc := Lib.hid hacc
      clear hgo hacc
      by_cases hlt : k < n
      · have hn1 := next_int (w.heap.size + 1) w.heap.size (w.heap.size + 2) (w.heap.size + 3) (w.heap.size + 4) w.heap.size A b c at_ k v acc wr k0 k1 k2 k3 (hr.below hbel) hc (by omega) hat hown (by omega) hsz (by omega) (by omega) (by omega) (by omega) (by omega) (by omega) (by omega) (by omega) (by omega) (by omega) (by omega) (by omega) (by omega)
        have hs : decGo decInt b (n - k) at_ acc = if (decInt (b.drop at_)).2.2 ≠ 0 then ([], 0, (decInt (b.drop at_)).2.2) else decGo decInt b (n - (k + 1)) (at_ + (decInt (b.drop at_)).2.1) (acc ++ [(decInt (b.drop at_)).1]) := by
          rw [show n - k = (n - (k + 1)) + 1 by omega]; rfl
        rw [Hgo.out] at hs
        have hle := decInt_le (b.drop at_)
        rcases hd2 : decInt (b.drop at_) with ⟨x, m, er⟩
        rw [hd2] at hs hle
        rw [hd2] at hn1
        simp only [List.length_drop] at hn1 hs hle
        have HN := Lib.hid hn1
        clear hn1 hd2 k0 k1 k2 k3
        by_cases he : er = 0
        · subst he
          simp only [ne_eq, not_true_eq_false, if_false] at hs
          have HS := Lib.hid hs
          clear hs
          go_wp2_with (go_at_call 134; refine HN.out.mono ?_; rintro e w2 ⟨v2, rfl, j0, j1, j2, j3, ho2, hb2⟩)
          go_roundw
          case rel => exact ⟨k + 1, at_ + m, acc ++ [x], v2, hlt, by go_num, by rw [List.length_append, Hacc.out]; rfl, by omega,  HS.out.symm, j0, j1, j2, j3, ho2, hbel.trans hb2, Nat.le_trans hsz hb2.size⟩
          case measure => simp only [intOf]; omega
        · have hb := errB er he
          rw [if_pos he] at hs
          have HS := Lib.hid hs
          clear hs
          go_wp2_with (go_at_call 134; refine HN.out.mono ?_; rintro e w2 ⟨v2, rfl, j0, j1, j2, j3, ho2, hb2⟩)
          go_ret3
          rw [HS.out]
          exact ⟨_, rfl, World.ownsRow_nil _ _ _ _, hbel.trans hb2⟩
      · obtain rfl : k = n := by omega
        have c2 : wr.cell? ⟨w.heap.size + 2, 0, none⟩ = some (.int .i64 at_) := k2.cell 0
        have c3 : wr.cell? ⟨w.heap.size + 3, 0, none⟩ = some v := k3.cell 0
        have hs : decGo decInt b k u [] = (acc, at_, 0) := by rw [← Hgo.out, Nat.sub_self]; rfl
        have HS := Lib.hid hs
        clear hs
        go_wp2_with fail
        go_quiet (fail)
        go_wp2_with fail
        go_ret3
        rw [HS.out]
        exact ⟨v, rfl, by rw [Hacc.out]; exact own_mono hown (by omega), ⟨hbel.os, hbel.tape, hbel.output, hbel.size, hbel.block⟩⟩
  · have hb := errB er he
    rw [if_pos he] at hdef
    rw [hdef]
    clear hdef hd
    go_enter Tryz.func119, Tryz.ntmps119
    go_wp2_with (go_at_call 133; refine (HC.out _ (((Below.refl _ _).alloc (Nat.le_refl _) _).alloc (by simp) _)).mono ?_; rintro e w' ⟨rfl, rfl⟩)
    go_ret3
    exact ⟨_, rfl, World.ownsRow_nil _ _ _ _, ((((Below.refl _ _).alloc (Nat.le_refl _) _).alloc (by simp) _).alloc (by simp; omega) _)⟩

end Go.Proofs.YtbfhilbagojdnaaGreat.W1
