/-
  The contract of wire.GetInt: it returns the decoding of the integer at the beginning of the bytes, and changes nothing.
  No condition but that the bytes can be read.
-/
import Derived.Test.YtbfhilbagojdnaaGreatWInt
import Derived.Deep.DeepCutAuto
import Derived.BigQuiet
namespace Go.Proofs.YtbfhilbagojdnaaGreat.W1
open Go.RowKit Go.Proofs.YtbfhilbagojdnaaGreat.Wr Go.Proofs.YtbfhilbagojdnaaGreat.W1.Wr
set_option linter.unusedVariables false
set_option maxRecDepth 100000

theorem or_byte (v : Nat) (a b : UInt8) (hv : v < 72057594037927936) : bits BinOp.or IntKind.u64 (IntKind.u64.wrap ((v : Int) * 256)) (IntKind.u64.wrap ((a.toNat ^^^ b.toNat : Nat) : Int)) = ((v * 256 + (a ^^^ b).toNat : Nat) : Int) := by
  have hx : a.toNat ^^^ b.toNat = (a ^^^ b).toNat := by rw [UInt8.toNat_xor]
  have hl := (a ^^^ b).toNat_lt
  rw [hx]
  have e1 : IntKind.u64.wrap ((v : Int) * 256) = ((v * 256 : Nat) : Int) := by rw [wrap_u64]; omega
  have e2 : IntKind.u64.wrap (((a ^^^ b).toNat : Nat) : Int) = (((a ^^^ b).toNat : Nat) : Int) := by rw [wrap_u64]; omega
  rw [e1, e2, u64_or_nat _ _ (by omega) (by omega), nat_join 8 _ _ (by omega) (by omega)]
theorem val_take (l : List UInt8) (f : UInt8) (j : Nat) (h : j < l.length) : val ((l.take (j + 1)).map (· ^^^ f)) = val ((l.take j).map (· ^^^ f)) * 256 + (l[j] ^^^ f).toNat := by
  rw [List.take_succ_eq_append_getElem h, List.map_append, List.map_singleton, val_snoc]
theorem back_neg (m : Nat) (h : ¬ 9223372036854775807 < m) : wrap64 (bits BinOp.xor IntKind.u64 IntKind.u64.max (m : Int)) = -1 - (m : Int) := by
  rw [max_u64, u64_xor_nat _ _ (by omega) (by omega), xor_max _ (by omega)]
  unfold wrap64
  omega
section
variable {h f : UInt8} {t : List UInt8} {K m : Nat}
theorem dec_big (hK : K = cnt h) (h8 : 8 < K) : decInt (h :: t) = (0, 0, 2) := by
  rw [hK] at h8; rw [decInt_cons, if_pos h8]
theorem dec_short (hK : K = cnt h) (h8 : ¬ 8 < K) (hs : t.length < K) : decInt (h :: t) = (0, 0, 3) := by
  rw [hK] at h8 hs; rw [decInt_cons, if_neg h8, if_pos hs]
theorem dec_bad (hK : K = cnt h) (hf : f = flag h) (hm : m = val ((t.take K).map (· ^^^ f))) (h8 : ¬ 8 < K) (hs : ¬ t.length < K) (hb : (0 < K ∧ t.head? = some f) ∨ maxI < m) : decInt (h :: t) = (0, 0, 2) := by
  rw [hm, hf, hK] at hb; rw [hK] at h8 hs; rw [decInt_cons, if_neg h8, if_neg hs, if_pos hb]
theorem dec_ok (hK : K = cnt h) (hf : f = flag h) (hm : m = val ((t.take K).map (· ^^^ f))) (h8 : ¬ 8 < K) (hs : ¬ t.length < K) (hb : ¬ ((0 < K ∧ t.head? = some f) ∨ maxI < m)) :
    decInt (h :: t) = (if f = 0 then (m : Int) else -1 - (m : Int), 1 + K, 0) := by
  rw [hm, hf, hK] at hb; rw [hK] at h8 hs; rw [decInt_cons, if_neg h8, if_neg hs, if_neg hb, hm, hf, hK]
end

set_option maxRecDepth 100000 in
set_option maxHeartbeats 1000000 in
theorem getInt_any (A : Option Addr) (b : List UInt8) (c : Nat) (w : World) (B : Nat) (hr : Rd w B A (B8 b)) (hc : b.length ≤ c) (hl : b.length ≤ 1099511627776) :
    Calls Tryz.prog 120 #[.slice A b.length c] w fun e w' => e = .returned (.tuple #[.int .i64 (decInt b).1, .int .i64 ((decInt b).2.1 : Nat), .int .i64 ((decInt b).2.2 : Nat)]) ∧ w = w' := by
  cases b with
  | nil =>
    go_enter Tryz.func120, Tryz.ntmps120
    go_wp2
    go_ret3
    exact ⟨rfl, rfl⟩
  | cons h t =>
    obtain ⟨g, o, rfl, hg, hcell⟩ := hr (by simp [B8])
    have hc0 : w.cell? ⟨g, o, none⟩ = some (.int .u8 (h.toNat : Int)) := hcell 0 _ (by simp [B8])
    have Hcell := Lib.hid hcell
    obtain ⟨N, hN⟩ : ∃ N, N = t.length := ⟨_, rfl⟩
    rw [List.length_cons, ← hN] at hc hl ⊢
    have HN := Lib.hid hN
    obtain ⟨f, hf⟩ : ∃ f, f = flag h := ⟨_, rfl⟩
    obtain ⟨K, hK⟩ : ∃ K, K = cnt h := ⟨_, rfl⟩
    have hxor : bits BinOp.xor IntKind.u8 (h.toNat : Int) (f.toNat : Int) = (K : Int) + 128 := by rw [xor8, hf, cnt_eq, hK]; rfl
    have hfc := flag_cases h
    rw [← hf] at hfc
    have hK2 : K < 128 := by have := cnt_eq h; have := (h ^^^ flag h).toNat_lt; omega
    have HK := Lib.hid hK
    have HF := Lib.hid hf
    clear hK hf hN hcell hr
    go_enter Tryz.func120, Tryz.ntmps120
    go_upto_if 17 with (fail)
    go_cut [5] (fun s5 wx => s5 = .int .u8 f.toNat ∧ w = wx)
    case first =>
      clear hxor
      rcases hfc with ⟨hf0, hh⟩ | ⟨hf0, hh⟩
      · have Hf0 := Lib.hid hf0
        clear hf0
        go_wp2_with fail
        go_meet
        exact ⟨by rw [Hf0.out]; rfl, rfl⟩
      · have Hf0 := Lib.hid hf0
        clear hf0
        go_wp2_with fail
        go_meet
        exact ⟨by rw [Hf0.out]; rfl, rfl⟩
    case rest =>
      obtain ⟨rfl, rfl⟩ := hcut
      clear hfc
      by_cases h8 : 8 < K
      · go_wp2_with fail
        go_ret3
        refine ⟨?_, rfl⟩
        rw [dec_big HK.out h8]; rfl
      by_cases hs : N < K
      · go_wp2_with fail
        go_ret3
        refine ⟨?_, rfl⟩
        rw [dec_short HK.out h8 (by rw [← HN.out]; exact hs)]; rfl
      have hA : ∃ A', (∀ j : Nat, j < K → A' = some (⟨g, o + 1, none⟩ : Addr)) ∧ ∀ W : World, (Instr.sliceAt 38 (.slice (some ⟨g, o, none⟩) (N + 1) c) (some (.int .i64 1)) (some (.int .i64 (1 + (K : Int)))) none).run Tryz.prog W = .ok (.slice A' K (c - 1)) W := by
        refine ⟨if c = 1 then some ⟨g, o, none⟩ else some ⟨g, o + 1, none⟩, fun j hj => if_neg (by omega), fun W => ?_⟩
        have hu : Tryz.prog.underlying 38 = some (.slice (Tryz.prog.elem 38)) := by kernel_rfl
        have he : Tryz.prog.elem 38 = 5 := by kernel_rfl
        have h5 : (sizeOf 5).run Tryz.prog W = .ok 1 W := by kernel_rfl
        rw [run_sliceAt_slice W 38 _ _ _ _ hu, run_slice_lh W 38 (some ⟨g, o, none⟩) (N + 1) c hu .i64 .i64 1 (1 + (K : Int)) (by omega) (by omega) (by omega), he, h5]
        simp only [Result.andThen, sliced]
        have e1 : (1 + (K : Int)).toNat - (1 : Int).toNat = K := by omega
        rw [e1]
        by_cases hc1 : c = 1
        · simp [hc1]
        · simp [hc1, Addr.add_lit]
      obtain ⟨A', hA1, hsl⟩ := hA
      have HA1 := Lib.hid hA1
      clear hA1
      go_wp2_with fail
      go_loop [7, 37] (fun s7 s37 => ∃ j : Nat, j ≤ K ∧ s37 = .int .i64 j ∧ s7 = .int .u64 (val ((t.take j).map (· ^^^ f)) : Nat)) (fun _ s37 => K - (intOf s37).toNat)
      case atStart => exact ⟨0, Nat.zero_le _, rfl, rfl⟩
      case round =>
        obtain ⟨j, hj, rfl, rfl⟩ := hrel
        by_cases hjK : j < K
        · have hA2 := HA1.out j hjK
          subst hA2
          have hjt : j < t.length := by have := HN.out; omega
          have hcj : w.cell? ⟨g, o + 1 + j, none⟩ = some (.int .u8 (t[j].toNat : Int)) := by rw [Nat.add_assoc]; exact Hcell.out (1 + j) _ (by simp [B8, Nat.add_comm 1 j, hjt])
          have hx := xor8 t[j] f
          have hv : val ((t.take j).map (· ^^^ f)) < 72057594037927936 := by
            have h1 := val_lt ((t.take j).map (· ^^^ f))
            have h2 : 256 ^ ((t.take j).map (· ^^^ f)).length ≤ 256 ^ 7 := Nat.pow_le_pow_right (by decide) (by simp; omega)
            have h3 : (256 : Nat) ^ 7 = 72057594037927936 := by decide
            omega
          go_wp2_with fail
          go_round
          case rel =>
            refine ⟨j + 1, hjK, by go_num, ?_⟩
            rw [← List.map_take, or_byte _ _ _ hv, val_take _ _ _ hjt]
          case measure => simp only [intOf]; omega
        · obtain rfl : j = K := by omega
          clear hj hjK
          obtain ⟨m, hm⟩ : ∃ m, m = val ((t.take j).map (· ^^^ f)) := ⟨_, rfl⟩
          have hm1 : m < 18446744073709551616 := by
            have h1 := val_lt ((t.take j).map (· ^^^ f))
            have h2 : 256 ^ ((t.take j).map (· ^^^ f)).length ≤ 256 ^ 8 := Nat.pow_le_pow_right (by decide) (by simp; omega)
            rw [pow8] at h2
            omega
          rw [← hm]
          have HM := Lib.hid hm
          clear hm hxor hsl
          have hj0 : 0 < j ∨ j = 0 := by omega
          rcases hj0 with hj0 | hj0
          · have hjt : 0 < t.length := by have := HN.out; omega
            have hc1 : w.cell? ⟨g, o + 1, none⟩ = some (.int .u8 (t[0].toNat : Int)) := Hcell.out 1 _ (by simp [B8, hjt])
            by_cases he : t[0] = f
            · have hb : ((t[0].toNat : Int) == (f.toNat : Int)) = true := by rw [he]; simp
              have HE := Lib.hid he
              clear he
              go_wp2_with fail
              go_ret3
              refine ⟨?_, rfl⟩
              rw [dec_bad HK.out HF.out HM.out h8 (by rw [← HN.out]; exact hs) (.inl ⟨hj0, by rw [List.head?_eq_getElem?, List.getElem?_eq_getElem hjt, HE.out]⟩)]; rfl
            · have hb : ((t[0].toNat : Int) == (f.toNat : Int)) = false := by
                rw [beq_eq_false_iff_ne]; intro e; exact he (UInt8.toNat.inj (by omega))
              by_cases hmx : 9223372036854775807 < m
              · go_wp2_with fail
                go_ret3
                refine ⟨?_, rfl⟩
                rw [dec_bad HK.out HF.out HM.out h8 (by rw [← HN.out]; exact hs) (.inr hmx)]; rfl
              · by_cases hf0 : f = 0
                · have hfb : ((f.toNat : Int) != 0) = false := by rw [hf0]; rfl
                  have Hf0 := Lib.hid hf0
                  clear hf0
                  go_wp2_with fail
                  go_ret3
                  refine ⟨?_, rfl⟩
                  rw [dec_ok HK.out HF.out HM.out h8 (by rw [← HN.out]; exact hs) (by rw [List.head?_eq_getElem?, List.getElem?_eq_getElem hjt]; rintro (⟨_, e⟩ | e); exact he (Option.some.inj e); exact hmx e), if_pos Hf0.out]; rfl
                · have hfb : ((f.toNat : Int) != 0) = true := by rw [bne_iff_ne]; intro e; exact hf0 (UInt8.toNat.inj (by simpa using e))
                  go_wp2_with fail
                  go_ret3
                  refine ⟨?_, rfl⟩
                  rw [dec_ok HK.out HF.out HM.out h8 (by rw [← HN.out]; exact hs) (by rw [List.head?_eq_getElem?, List.getElem?_eq_getElem hjt]; rintro (⟨_, e⟩ | e); exact he (Option.some.inj e); exact hmx e), if_neg hf0, ← back_neg m hmx]; rfl
          · subst hj0
            obtain rfl : m = 0 := by rw [HM.out]; rfl
            by_cases hf0 : f = 0
            · have hfb : ((f.toNat : Int) != 0) = false := by rw [hf0]; rfl
              have Hf0 := Lib.hid hf0
              clear hf0
              go_wp2_with fail
              go_ret3
              refine ⟨?_, rfl⟩
              rw [dec_ok HK.out HF.out HM.out h8 (by rw [← HN.out]; exact hs) (by rw [maxI_lt]; omega), if_pos Hf0.out]; rfl
            · have hfb : ((f.toNat : Int) != 0) = true := by rw [bne_iff_ne]; intro e; exact hf0 (UInt8.toNat.inj (by simpa using e))
              go_wp2_with fail
              go_ret3
              refine ⟨?_, rfl⟩
              rw [dec_ok HK.out HF.out HM.out h8 (by rw [← HN.out]; exact hs) (by rw [maxI_lt]; omega), if_neg hf0, ← back_neg 0 (by omega)]; rfl
end Go.Proofs.YtbfhilbagojdnaaGreat.W1
