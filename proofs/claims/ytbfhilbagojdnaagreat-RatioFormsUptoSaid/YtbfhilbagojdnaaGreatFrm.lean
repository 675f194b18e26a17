/-
  The law RatioForms returns true.
  No condition but the lengths, and that the library's variable MaxLen is there.
-/
import Derived.Test.YtbfhilbagojdnaaGreatFo
import Derived.Deep.CutBlock
namespace Go.Proofs.YtbfhilbagojdnaaGreat
open Go.RowKit Wr Go.Proofs.YtbfhilbagojdnaaGreat.Nm
open Go.Proofs.YtbfhilbagojdnaaGreat.W1.Wr (okInt)
set_option linter.unusedVariables false
set_option maxRecDepth 100000

theorem small_dec (a : Nat) (h : a < 256) : (decS a).length ≤ 1000 := by
  have := decX_ten (lim_small a h)
  unfold decS
  split
  · simp
  · omega
theorem gd_parse (l : List UInt8) : Gd5 (parseR l) := by
  refine ⟨(parse_gd l).1, ?_⟩
  unfold parseR
  split
  · exact ⟨Nat.zero_le _, Nat.zero_le _⟩
  · split
    · exact ⟨Nat.zero_le _, Nat.zero_le _⟩
    · split
      · exact ⟨Nat.zero_le _, Nat.zero_le _⟩
      · next h =>
        split
        · exact ⟨Nat.zero_le _, Nat.zero_le _⟩
        · exact ⟨by dsimp only; omega, by dsimp only; omega⟩
theorem str_ne (S : ByteArray) : (S != S) = false := by
  cases S with
  | mk d =>
    show (!(d == d)) = false
    simp
theorem vld_lens {r : Rt} (h : vld r = 0) : r.1.length ≤ 64 ∧ r.2.length ≤ 64 := by
  unfold vld at h
  by_cases hb : 64 < r.1.length ∨ 64 < r.2.length
  · rw [if_pos hb] at h; cases h
  · omega
set_option maxHeartbeats 8000000 in
theorem forms_walk {A4 A5 A7 : Option Addr} {n4 k4 n5 k5 n7 k7 : Nat} {lr lm : List Nat} {l : List UInt8} {rest : List UInt8} (n m how by_ : Int) (w : World) (hM : MaxL w) (h2 : 2 < w.heap.size) (hn : -9223372036854775808 ≤ n ∧ n ≤ 9223372036854775807) (hm : -9223372036854775808 ≤ m ∧ m ≤ 9223372036854775807) (hh : -9223372036854775808 ≤ how ∧ how ≤ 9223372036854775807) (hb : -9223372036854775808 ≤ by_ ∧ by_ ≤ 9223372036854775807)
    (h4 : Sl w (.slice A4 n4 k4) lr) (h5 : Sl w (.slice A5 n5 k5) lm) (o4 : Ok lr) (o5 : Ok lm) (hl4 : n4 ≤ 9223372036854775807) (hl5 : n5 ≤ 9223372036854775807) (hls : l.length ≤ 1048576) (h7 : Bw w (.slice A7 n7 k7) rest) (hl7 : rest.length ≤ 1048576) : Calls Tryz.prog 5 #[.int .i64 n, .int .i64 m, .int .i64 how, .int .i64 by_, .slice A4 n4 k4, .slice A5 n5 k5, .string ⟨l.toArray⟩, .slice A7 n7 k7] w (SmP w true) := by
  have HS1 := Lib.hid (some_any (w := w) n m how by_ hn hm hh hb h4 h5 o4 o5 hl4 hl5)
  have HM := Lib.hid hM; have H2 := Lib.hid h2
  have HRW := Lib.hid (fun W (h : Below w.heap.size w W) => h7.below h)
  have HL7 := Lib.hid hl7
  have HLL := Lib.hid hls
  have HAn := Lib.hid (fun W => around_any n 100 W hn (by omega))
  have p1 := arI_lo n 100 (by omega); have p2 := arI_hi n 100 (by omega)
  obtain ⟨a, ha⟩ := Int.eq_ofNat_of_zero_le p1
  rw [ha] at HAn p2
  have HWa := Lib.hid (fun W => whole_any a W (by omega))
  have HDa := Lib.hid (fun W v (h : Sl W v (lim a)) => rdec_any h (by have := lim_small a (by omega); omega))
  have HSa := Lib.hid (small_dec a (by omega))
  clear p1 p2 ha
  have HAm := Lib.hid (fun W => around_any m 100 W hm (by omega))
  have p1 := arI_lo m 100 (by omega); have p2 := arI_hi m 100 (by omega)
  obtain ⟨b, hb9⟩ := Int.eq_ofNat_of_zero_le p1
  rw [hb9] at HAm p2
  have HWb := Lib.hid (fun W => whole_any b W (by omega))
  have HDb := Lib.hid (fun W v (h : Sl W v (lim b)) => rdec_any h (by have := lim_small b (by omega); omega))
  have HSb := Lib.hid (small_dec b (by omega))
  clear p1 p2 hb9
  clear hM h2 hn hm hh hb h4 h5 h7 o4 o5 hl4 hl5 hl7 hls
  go_enter Tryz.func5, Tryz.ntmps5
  go_wp2_with fail
  refine HS1.out.mono ?_
  rintro e w1 ⟨v, L, rfl, hL, hR, hb⟩
  have BW := Lib.hid hb
  obtain ⟨g, o, c, rfl, hc7, hgl, hcs⟩ := rls_cells hR hL
  have HG := Lib.hid hgl; have HCS := Lib.hid hcs
  clear hR hb hL hgl hcs hc7 HS1
  go_wp2_with fail
  go_loopw [18] (fun s wr => ∃ i : Nat, i ≤ 7 ∧ s = .int .i64 ((i : Nat) : Int) ∧ Below w1.heap.size w1 wr) (fun s _ => 7 - (intOf s).toNat)
  case atStart => exact ⟨0, Nat.zero_le _, rfl, Below.refl _ _⟩
  case round =>
    obtain ⟨i, hi, rfl, hbel⟩ := hrel
    have BR := Lib.hid hbel
    clear hbel
    rcases Nat.lt_or_ge i 7 with hlt | hge
    · clear HAn HWa HDa HSa HAm HWb HDb HSb
      have hiI : (i : Int) < 7 := by omega
      have HI := Lib.hid (show i + 1 ≤ 7 ∧ i < 7 by omega)
      obtain ⟨A1, n1, k1, A2, n2, k2, r, hr, d1, d2, hkr⟩ := HCS.out i hlt
      have HD1 := Lib.hid (fun W (h : Below w1.heap.size w1 W) => And.intro ((h.cell (p := ⟨g, o + i * 2, none⟩) HG.out).trans d1) ((h.cell (p := ⟨g, o + i * 2 + 1, none⟩) HG.out).trans d2))
      have KA := Lib.hid (fun W (h : Below w1.heap.size w1 W) => hkr.below h)
      have HOR := Lib.hid (And.intro hkr.ok (And.intro hkr.l1 hkr.l2))
      obtain ⟨TX, E0, hF⟩ : ∃ f e, printR r = (f, e) := ⟨_, _, rfl⟩
      have HF := Lib.hid hF
      obtain ⟨S, hS⟩ : ∃ S : ByteArray, S = ⟨TX.toArray⟩ := ⟨_, rfl⟩
      have HSX := Lib.hid hS
      have HF1 := Lib.hid (fun W (h : Below w1.heap.size w1 W) => show Calls Tryz.prog 26 #[.agg #[.slice A1 n1 k1, .slice A2 n2 k2]] W (fun e w' => e = .returned (.tuple #[.string S, .int .i64 ((E0 : Nat) : Int)]) ∧ Below W.heap.size W w') by have h := print_any (KA.out W h); rw [hF] at h; rw [hS]; exact h)
      have HF2 := Lib.hid (fun W (h : Below w1.heap.size w1 W) => show Calls Tryz.prog 27 #[.agg #[.slice A1 n1 k1, .slice A2 n2 k2]] W (fun e w' => e = .returned (.tuple #[.string S, .int .i64 ((E0 : Nat) : Int)]) ∧ Below W.heap.size W w') by have h := rprint_any (KA.out W h); rw [hF] at h; rw [hS]; exact h)
      obtain ⟨b, hbq⟩ : ∃ b, b = encR r.1 r.2 := ⟨_, rfl⟩
      have HBQ := Lib.hid hbq
      have HE1 := Lib.hid (fun W (h : Below w1.heap.size w1 W) => show Calls Tryz.prog 29 #[.agg #[.slice A1 n1 k1, .slice A2 n2 k2]] W (EnP W b) by rw [hbq]; exact encode_any (KA.out W h).s1 (KA.out W h).s2 hkr.ok.1 hkr.ok.2 (by have := hkr.l1; omega) (by have := hkr.l2; omega))
      have HE2 := Lib.hid (fun W (h : Below w1.heap.size w1 W) => show Calls Tryz.prog 30 #[.agg #[.slice A1 n1 k1, .slice A2 n2 k2]] W (EnP W b) by rw [hbq]; exact rencode_any (KA.out W h).s1 (KA.out W h).s2 hkr.ok.1 hkr.ok.2 (by have := hkr.l1; omega) (by have := hkr.l2; omega))
      have HBL0 := Lib.hid (show 1 ≤ b.length ∧ b.length ≤ 100000 by rw [hbq]; exact encR_len hkr.l1 hkr.l2)
      have HBL := Lib.hid (show b.length ≤ 1099511627776 by have := HBL0.out; omega)
      clear hr d1 d2 hkr hF hS hbq hlt hi
      obtain ⟨c1, c2⟩ := HD1.out _ BR.out
      go_wp2_with fail
      refine (HF1.out _ BR.out).mono ?_
      rintro e w2 ⟨rfl, hb⟩
      have B2 := Lib.hid (below_step BR.out hb)
      clear hb c1 c2 BR HF1
      obtain ⟨c1, c2⟩ := HD1.out _ B2.out
      go_wp2_with fail
      refine (HF2.out _ B2.out).mono ?_
      rintro e w3 ⟨rfl, hb⟩
      have B3 := Lib.hid (below_step B2.out hb)
      clear hb c1 c2 B2 HF2
      have hne := str_ne S
      have hne2 : (((E0 : Nat) : Int) != ((E0 : Nat) : Int)) = false := by simp
      go_upto_region 7 with (fail)
      refine wp_region_held (S := fun W => (W.cell? ⟨g, o + i * 2, none⟩ = some (.slice A1 n1 k1) ∧ W.cell? ⟨g, o + i * 2 + 1, none⟩ = some (.slice A2 n2 k2))) (by kernel_rfl) ?_
      change wpAnyH _ _ _ _ _ _ _ _ (World.drew w3)
      have k0 : Hid (Below w1.heap.size w1 (World.drew w3)) := Lib.hid (below_drewN B3.out 1)
      have hs0 : ((World.drew w3).cell? ⟨g, o + i * 2, none⟩ = some (.slice A1 n1 k1) ∧ (World.drew w3).cell? ⟨g, o + i * 2 + 1, none⟩ = some (.slice A2 n2 k2)) := HD1.out _ k0.out
      generalize World.drew w3 = Wd at hs0 k0 ⊢
      refine wpAnyH_take (i := 0) (oi := { dst := some 65, op := Op.move (Operand.tmp 19), type := 9, pos := "law.go:166", after := #[], guard := none }) (v := .string S) rfl (by kernel_rfl) (by kernel_rfl) (by kernel_rfl) (fun _ _ _ h => h) (Or.inl ⟨by rfl, fun W hW => ?y1⟩) hs0 ?_
      case y1 => go_simp
      try dsimp only [Act.put]
      try simp only [List.setIfInBounds_toArray, List.set_cons_zero, List.set_cons_succ]
      refine wpAnyH_take (i := 1) (oi := { dst := some 66, op := Op.move (Operand.tmp 21), type := 9, pos := "law.go:166", after := #[], guard := none }) (v := .string S) rfl (by kernel_rfl) (by kernel_rfl) (by kernel_rfl) (fun _ _ _ h => h) (Or.inl ⟨by rfl, fun W hW => ?y2⟩) hs0 ?_
      case y2 => go_simp
      try dsimp only [Act.put]
      try simp only [List.setIfInBounds_toArray, List.set_cons_zero, List.set_cons_succ]
      refine wpAnyH_take (i := 2) (oi := { dst := some 67, op := Op.binOp BinOp.neq 9 (Operand.tmp 65) (Operand.tmp 66) 9, type := 4, pos := "law.go:166", after := #[{ on := 0, ground := Ground.data }, { on := 1, ground := Ground.data }], guard := none }) (v := .bool false) rfl (by kernel_rfl) (by kernel_rfl) (by kernel_rfl) (fun _ _ _ h => h) (Or.inl ⟨by rfl, fun W hW => ?y3⟩) hs0 ?_
      case y3 => go_simp
      try dsimp only [Act.put]
      try simp only [List.setIfInBounds_toArray, List.set_cons_zero, List.set_cons_succ]
      refine wpAnyH_take (i := 3) (oi := { dst := some 68, op := Op.move (Operand.tmp 67), type := 4, pos := "law.go:166", after := #[{ on := 2, ground := Ground.data }], guard := none }) (v := .bool false) rfl (by kernel_rfl) (by kernel_rfl) (by kernel_rfl) (fun _ _ _ h => h) (Or.inl ⟨by rfl, fun W hW => ?y4⟩) hs0 ?_
      case y4 => go_simp
      try dsimp only [Act.put]
      try simp only [List.setIfInBounds_toArray, List.set_cons_zero, List.set_cons_succ]
      refine wpAnyH_take (i := 4) (oi := { dst := some 69, op := Op.move (Operand.tmp 20), type := 28, pos := "law.go:166", after := #[{ on := 3, ground := Ground.guard }], guard := some (3, false) }) (v := .int .i64 ((E0 : Nat) : Int)) rfl (by kernel_rfl) (by kernel_rfl) (by kernel_rfl) (fun _ _ _ h => h) (Or.inl ⟨by rfl, fun W hW => ?y5⟩) hs0 ?_
      case y5 => go_simp
      try dsimp only [Act.put]
      try simp only [List.setIfInBounds_toArray, List.set_cons_zero, List.set_cons_succ]
      refine wpAnyH_take (i := 5) (oi := { dst := some 70, op := Op.move (Operand.tmp 22), type := 28, pos := "law.go:166", after := #[{ on := 3, ground := Ground.guard }], guard := some (3, false) }) (v := .int .i64 ((E0 : Nat) : Int)) rfl (by kernel_rfl) (by kernel_rfl) (by kernel_rfl) (fun _ _ _ h => h) (Or.inl ⟨by rfl, fun W hW => ?y6⟩) hs0 ?_
      case y6 => go_simp
      try dsimp only [Act.put]
      try simp only [List.setIfInBounds_toArray, List.set_cons_zero, List.set_cons_succ]
      refine wpAnyH_take (i := 6) (oi := { dst := some 71, op := Op.binOp BinOp.neq 28 (Operand.tmp 69) (Operand.tmp 70) 28, type := 4, pos := "law.go:166", after := #[{ on := 4, ground := Ground.data }, { on := 5, ground := Ground.data }, { on := 3, ground := Ground.guard }], guard := some (3, false) }) (v := .bool false) rfl (by kernel_rfl) (by kernel_rfl) (by kernel_rfl) (fun _ _ _ h => h) (Or.inl ⟨by rfl, fun W hW => ?y7⟩) hs0 ?_
      case y7 => go_simp
      try dsimp only [Act.put]
      try simp only [List.setIfInBounds_toArray, List.set_cons_zero, List.set_cons_succ]
      refine wpAnyH_take (i := 7) (oi := { dst := some 72, op := Op.pick (Operand.tmp 68) (Operand.const (Value.bool true)) (Operand.tmp 71), type := 4, pos := "law.go:166", after := #[{ on := 3, ground := Ground.data }, { on := 6, ground := Ground.data }], guard := none }) (v := .bool false) rfl (by kernel_rfl) (by kernel_rfl) (by kernel_rfl) (fun _ _ _ h => h) (Or.inl ⟨by rfl, fun W hW => ?y8⟩) hs0 ?_
      case y8 => go_simp
      try dsimp only [Act.put]
      try simp only [List.setIfInBounds_toArray, List.set_cons_zero, List.set_cons_succ]
      refine wpAnyH_take (i := 8) (oi := { dst := some 73, op := Op.move (Operand.tmp 72), type := 4, pos := "law.go:166", after := #[{ on := 7, ground := Ground.data }, { on := 3, ground := Ground.chain }], guard := none }) (v := .bool false) rfl (by kernel_rfl) (by kernel_rfl) (by kernel_rfl) (fun _ _ _ h => h) (Or.inl ⟨by rfl, fun W hW => ?y9⟩) hs0 ?_
      case y9 => go_simp
      try dsimp only [Act.put]
      try simp only [List.setIfInBounds_toArray, List.set_cons_zero, List.set_cons_succ]
      refine wpAnyH_take (i := 9) (oi := { dst := some 74, op := Op.move (Operand.tmp 17), type := 23, pos := "law.go:166", after := #[{ on := 8, ground := Ground.guard }], guard := some (8, false) }) (v := (.slice (some ⟨g, o, none⟩) 7 c)) rfl (by kernel_rfl) (by kernel_rfl) (by kernel_rfl) (fun _ _ _ h => h) (Or.inl ⟨by rfl, fun W hW => ?y10⟩) hs0 ?_
      case y10 => go_simp
      try dsimp only [Act.put]
      try simp only [List.setIfInBounds_toArray, List.set_cons_zero, List.set_cons_succ]
      refine wpAnyH_take (i := 10) (oi := { dst := some 75, op := Op.move (Operand.tmp 18), type := 3, pos := "law.go:166", after := #[{ on := 8, ground := Ground.guard }], guard := some (8, false) }) (v := (.int .i64 ((i : Nat) : Int))) rfl (by kernel_rfl) (by kernel_rfl) (by kernel_rfl) (fun _ _ _ h => h) (Or.inl ⟨by rfl, fun W hW => ?y11⟩) hs0 ?_
      case y11 => go_simp
      try dsimp only [Act.put]
      try simp only [List.setIfInBounds_toArray, List.set_cons_zero, List.set_cons_succ]
      refine wpAnyH_take (i := 11) (oi := { dst := some 76, op := Op.indexAddr 23 (Operand.tmp 74) (Operand.tmp 75), type := 0, pos := "law.go:166", after := #[{ on := 9, ground := Ground.data }, { on := 10, ground := Ground.data }, { on := 8, ground := Ground.guard }], guard := some (8, false) }) (v := (.pointer (some ⟨g, o + i * 2, none⟩))) rfl (by kernel_rfl) (by kernel_rfl) (by kernel_rfl) (fun _ _ _ h => h) (Or.inl ⟨by rfl, fun W hW => ?y12⟩) hs0 ?_
      case y12 => go_simp
      try dsimp only [Act.put]
      try simp only [List.setIfInBounds_toArray, List.set_cons_zero, List.set_cons_succ]
      refine wpAnyH_take (i := 12) (oi := { dst := some 77, op := Op.load 27 (Operand.tmp 76), type := 27, pos := "law.go:166", after := #[{ on := 11, ground := Ground.data }, { on := 8, ground := Ground.guard }], guard := some (8, false) }) (v := (.agg #[.slice A1 n1 k1, .slice A2 n2 k2])) rfl (by kernel_rfl) (by kernel_rfl) (by kernel_rfl) (fun _ _ _ h => h) (Or.inl ⟨by rfl, fun W hW => by have hc1 := hW.1; have hc2 := hW.2; go_simp⟩) hs0 ?_
      try dsimp only [Act.put]
      try simp only [List.setIfInBounds_toArray, List.set_cons_zero, List.set_cons_succ]
      refine wpAnyH_take (i := 14) (oi := { dst := some 79, op := Op.move (Operand.tmp 17), type := 23, pos := "law.go:166", after := #[{ on := 8, ground := Ground.guard }], guard := some (8, false) }) (v := (.slice (some ⟨g, o, none⟩) 7 c)) rfl (by kernel_rfl) (by kernel_rfl) (by kernel_rfl) (fun _ _ _ h => h) (Or.inl ⟨by rfl, fun W hW => ?y14⟩) hs0 ?_
      case y14 => go_simp
      try dsimp only [Act.put]
      try simp only [List.setIfInBounds_toArray, List.set_cons_zero, List.set_cons_succ]
      refine wpAnyH_take (i := 15) (oi := { dst := some 80, op := Op.move (Operand.tmp 18), type := 3, pos := "law.go:166", after := #[{ on := 8, ground := Ground.guard }], guard := some (8, false) }) (v := (.int .i64 ((i : Nat) : Int))) rfl (by kernel_rfl) (by kernel_rfl) (by kernel_rfl) (fun _ _ _ h => h) (Or.inl ⟨by rfl, fun W hW => ?y15⟩) hs0 ?_
      case y15 => go_simp
      try dsimp only [Act.put]
      try simp only [List.setIfInBounds_toArray, List.set_cons_zero, List.set_cons_succ]
      refine wpAnyH_take (i := 16) (oi := { dst := some 81, op := Op.indexAddr 23 (Operand.tmp 79) (Operand.tmp 80), type := 0, pos := "law.go:166", after := #[{ on := 14, ground := Ground.data }, { on := 15, ground := Ground.data }, { on := 8, ground := Ground.guard }], guard := some (8, false) }) (v := (.pointer (some ⟨g, o + i * 2, none⟩))) rfl (by kernel_rfl) (by kernel_rfl) (by kernel_rfl) (fun _ _ _ h => h) (Or.inl ⟨by rfl, fun W hW => ?y16⟩) hs0 ?_
      case y16 => go_simp
      try dsimp only [Act.put]
      try simp only [List.setIfInBounds_toArray, List.set_cons_zero, List.set_cons_succ]
      refine wpAnyH_take (i := 17) (oi := { dst := some 82, op := Op.load 27 (Operand.tmp 81), type := 27, pos := "law.go:166", after := #[{ on := 16, ground := Ground.data }, { on := 8, ground := Ground.guard }], guard := some (8, false) }) (v := (.agg #[.slice A1 n1 k1, .slice A2 n2 k2])) rfl (by kernel_rfl) (by kernel_rfl) (by kernel_rfl) (fun _ _ _ h => h) (Or.inl ⟨by rfl, fun W hW => by have hc1 := hW.1; have hc2 := hW.2; go_simp⟩) hs0 ?_
      try dsimp only [Act.put]
      try simp only [List.setIfInBounds_toArray, List.set_cons_zero, List.set_cons_succ]
      refine wpAnyH_ready (rs := [13]) (by kernel_rfl) (by simp) ?_
      refine AllReadyH.cons (o := { dst := some 78, op := Op.call { callee := Callee.value (Operand.func 29), args := #[Operand.tmp 77], argTypes := #[27] }, type := 38, pos := "law.go:166", after := #[{ on := 12, ground := Ground.data }, { on := 8, ground := Ground.chain }, { on := 8, ground := Ground.guard }], guard := some (8, false) }) rfl (fun K hK => ?_) AllReadyH.nil
      rw [if_pos (by rfl)]
      go_simp
      refine (HE1.out _ k0.out).mono ?_
      rintro e w19 ⟨v, rfl, ho, hb⟩
      have k20 := Lib.hid (below_step k0.out hb)
      have hs21 := HD1.out _ k20.out
      have SB22 := Lib.hid (own_bw ho)
      obtain ⟨Aq18, cq18, rfl, _, _⟩ := bw_form SB22.out
      clear ho hb
      go_wp2_with fail
      refine hK.out _ _ hs21 (fun _ => ?_)
      clear hK K
      try dsimp only [Act.put]
      try simp only [List.setIfInBounds_toArray, List.set_cons_zero, List.set_cons_succ]
      refine wpAnyH_ready (rs := [18]) (by kernel_rfl) (by simp) ?_
      refine AllReadyH.cons (o := { dst := some 83, op := Op.call { callee := Callee.value (Operand.func 30), args := #[Operand.tmp 82], argTypes := #[27] }, type := 38, pos := "law.go:166", after := #[{ on := 17, ground := Ground.data }, { on := 13, ground := Ground.chain }, { on := 8, ground := Ground.guard }], guard := some (8, false) }) rfl (fun K hK => ?_) AllReadyH.nil
      rw [if_pos (by rfl)]
      go_simp
      refine (HE2.out _ k20.out).mono ?_
      rintro e w24 ⟨v, rfl, ho, hb⟩
      have k25 := Lib.hid (below_step k20.out hb)
      have hs26 := HD1.out _ k25.out
      have SB27 := Lib.hid (own_bw ho)
      obtain ⟨Aq23, cq23, rfl, _, _⟩ := bw_form SB27.out
      have SB28 := Lib.hid (SB22.out.below hb)
      clear ho hb
      go_wp2_with fail
      refine hK.out _ _ hs26 (fun _ => ?_)
      clear hK K
      try dsimp only [Act.put]
      try simp only [List.setIfInBounds_toArray, List.set_cons_zero, List.set_cons_succ]
      refine wpAnyH_ready (rs := [19]) (by kernel_rfl) (by simp) ?_
      refine AllReadyH.cons (o := { dst := some 84, op := Op.call { callee := Callee.value (Operand.func 28), args := #[Operand.tmp 78, Operand.tmp 83], argTypes := #[38, 38] }, type := 4, pos := "law.go:166", after := #[{ on := 13, ground := Ground.data }, { on := 18, ground := Ground.data }, { on := 18, ground := Ground.chain }, { on := 8, ground := Ground.guard }], guard := some (8, false) }) rfl (fun K hK => ?_) AllReadyH.nil
      rw [if_pos (by rfl)]
      go_simp
      refine (bsame_true SB28.out SB27.out HBL.out).mono ?_
      rintro e w29 ⟨rfl, hb⟩
      have k30 := Lib.hid (below_step k25.out hb)
      have hs31 := HD1.out _ k30.out
      clear hb
      go_wp2_with fail
      refine hK.out _ _ hs31 (fun _ => ?_)
      clear hK K
      try dsimp only [Act.put]
      try simp only [List.setIfInBounds_toArray, List.set_cons_zero, List.set_cons_succ]
      refine wpAnyH_take (i := 20) (oi := { dst := some 85, op := Op.unOp UnOp.not 4 (Operand.tmp 84), type := 4, pos := "law.go:166", after := #[{ on := 19, ground := Ground.data }, { on := 8, ground := Ground.guard }], guard := some (8, false) }) (v := .bool false) rfl (by kernel_rfl) (by kernel_rfl) (by kernel_rfl) (fun _ _ _ h => h) (Or.inl ⟨by rfl, fun W hW => ?y32⟩) hs31 ?_
      case y32 => go_simp
      try dsimp only [Act.put]
      try simp only [List.setIfInBounds_toArray, List.set_cons_zero, List.set_cons_succ]
      refine wpAnyH_take (i := 21) (oi := { dst := some 86, op := Op.pick (Operand.tmp 73) (Operand.const (Value.bool true)) (Operand.tmp 85), type := 4, pos := "law.go:166", after := #[{ on := 8, ground := Ground.data }, { on := 20, ground := Ground.data }], guard := none }) (v := .bool false) rfl (by kernel_rfl) (by kernel_rfl) (by kernel_rfl) (fun _ _ _ h => h) (Or.inl ⟨by rfl, fun W hW => ?y33⟩) hs31 ?_
      case y33 => go_simp
      try dsimp only [Act.put]
      try simp only [List.setIfInBounds_toArray, List.set_cons_zero, List.set_cons_succ]
      refine wpAnyH_done (by kernel_rfl) ?_ _
      try dsimp only [Act.put]
      try simp only [List.setIfInBounds_toArray, List.set_cons_zero, List.set_cons_succ]
      have B4 := Lib.hid k30.out
      clear hne hne2 HE1 HE2 B3
      go_wp2_with fail
      go_loopw [23] (fun s wr => ∃ k : Nat, k ≤ 7 ∧ s = .int .i64 ((k : Nat) : Int) ∧ Below w1.heap.size w1 wr) (fun s _ => 7 - (intOf s).toNat)
      case atStart => exact ⟨0, Nat.zero_le _, rfl, B4.out⟩
      case round =>
        clear B4
        obtain ⟨k, hk6, rfl, hbel⟩ := hrel
        have BR := Lib.hid hbel
        clear hbel
        rcases Nat.lt_or_ge k 7 with hlt | hge
        · have hkI : (k : Int) < 7 := by omega
          obtain ⟨A3, n3, k3, A4, n4, k4, s, hs, d3, d4, hks⟩ := HCS.out k hlt
          have HSW := Lib.hid (fun W (h : Below w1.heap.size w1 W) => show (W.cell? ⟨g, o + i * 2, none⟩ = some (.slice A1 n1 k1) ∧ W.cell? ⟨g, o + i * 2 + 1, none⟩ = some (.slice A2 n2 k2)) ∧ (W.cell? ⟨g, o + k * 2, none⟩ = some (.slice A3 n3 k3) ∧ W.cell? ⟨g, o + k * 2 + 1, none⟩ = some (.slice A4 n4 k4)) from
            ⟨HD1.out W h, (h.cell (p := ⟨g, o + k * 2, none⟩) HG.out).trans d3, (h.cell (p := ⟨g, o + k * 2 + 1, none⟩) HG.out).trans d4⟩)
          obtain ⟨q, hq⟩ : ∃ q, decide (r = s) = q := ⟨_, rfl⟩
          have HO := Lib.hid (fun W (h : Below w1.heap.size w1 W) => show Calls Tryz.prog 31 #[.agg #[.slice A1 n1 k1, .slice A2 n2 k2], .agg #[.slice A3 n3 k3, .slice A4 n4 k4]] W (SmP W q) by rw [← hq]; exact same_any (KA.out W h) (hks.below h))
          have HQ := Lib.hid (fun W (h : Below w1.heap.size w1 W) => show Calls Tryz.prog 15 #[.agg #[.slice A1 n1 k1, .slice A2 n2 k2], .agg #[.slice A3 n3 k3, .slice A4 n4 k4]] W (SmP W q) by rw [← hq]; exact rsame_any (KA.out W h) (hks.below h))
          have HK := Lib.hid (show k + 1 ≤ 7 by omega)
          have hqq : (q != q) = false := by simp
          clear hs d3 d4 hks hq hlt hk6
          go_upto_region 12 with (fail)
          refine wp_region_held (S := fun W => (W.cell? ⟨g, o + i * 2, none⟩ = some (.slice A1 n1 k1) ∧ W.cell? ⟨g, o + i * 2 + 1, none⟩ = some (.slice A2 n2 k2)) ∧ (W.cell? ⟨g, o + k * 2, none⟩ = some (.slice A3 n3 k3) ∧ W.cell? ⟨g, o + k * 2 + 1, none⟩ = some (.slice A4 n4 k4))) (by kernel_rfl) ?_
          change wpAnyH _ _ _ _ _ _ _ _ (World.drew wr)
          have k0 : Hid (Below w1.heap.size w1 (World.drew wr)) := Lib.hid (below_drewN BR.out 1)
          have hs0 : ((World.drew wr).cell? ⟨g, o + i * 2, none⟩ = some (.slice A1 n1 k1) ∧ (World.drew wr).cell? ⟨g, o + i * 2 + 1, none⟩ = some (.slice A2 n2 k2)) ∧ ((World.drew wr).cell? ⟨g, o + k * 2, none⟩ = some (.slice A3 n3 k3) ∧ (World.drew wr).cell? ⟨g, o + k * 2 + 1, none⟩ = some (.slice A4 n4 k4)) := HSW.out _ k0.out
          generalize World.drew wr = Wd at hs0 k0 ⊢
          refine wpAnyH_take (i := 0) (oi := { dst := some 93, op := Op.move (Operand.tmp 17), type := 23, pos := "law.go:170", after := #[], guard := none }) (v := (.slice (some ⟨g, o, none⟩) 7 c)) rfl (by kernel_rfl) (by kernel_rfl) (by kernel_rfl) (fun _ _ _ h => h) (Or.inl ⟨by rfl, fun W hW => ?y1⟩) hs0 ?_
          case y1 => go_simp
          try dsimp only [Act.put]
          try simp only [List.setIfInBounds_toArray, List.set_cons_zero, List.set_cons_succ]
          refine wpAnyH_take (i := 1) (oi := { dst := some 94, op := Op.move (Operand.tmp 18), type := 3, pos := "law.go:170", after := #[], guard := none }) (v := (.int .i64 ((i : Nat) : Int))) rfl (by kernel_rfl) (by kernel_rfl) (by kernel_rfl) (fun _ _ _ h => h) (Or.inl ⟨by rfl, fun W hW => ?y2⟩) hs0 ?_
          case y2 => go_simp
          try dsimp only [Act.put]
          try simp only [List.setIfInBounds_toArray, List.set_cons_zero, List.set_cons_succ]
          refine wpAnyH_take (i := 2) (oi := { dst := some 95, op := Op.indexAddr 23 (Operand.tmp 93) (Operand.tmp 94), type := 0, pos := "law.go:170", after := #[{ on := 0, ground := Ground.data }, { on := 1, ground := Ground.data }], guard := none }) (v := (.pointer (some ⟨g, o + i * 2, none⟩))) rfl (by kernel_rfl) (by kernel_rfl) (by kernel_rfl) (fun _ _ _ h => h) (Or.inl ⟨by rfl, fun W hW => ?y3⟩) hs0 ?_
          case y3 => go_simp
          try dsimp only [Act.put]
          try simp only [List.setIfInBounds_toArray, List.set_cons_zero, List.set_cons_succ]
          refine wpAnyH_take (i := 3) (oi := { dst := some 96, op := Op.load 27 (Operand.tmp 95), type := 27, pos := "law.go:170", after := #[{ on := 2, ground := Ground.data }], guard := none }) (v := (.agg #[.slice A1 n1 k1, .slice A2 n2 k2])) rfl (by kernel_rfl) (by kernel_rfl) (by kernel_rfl) (fun _ _ _ h => h) (Or.inl ⟨by rfl, fun W hW => by have hc1 := hW.1.1; have hc2 := hW.1.2; go_simp⟩) hs0 ?_
          try dsimp only [Act.put]
          try simp only [List.setIfInBounds_toArray, List.set_cons_zero, List.set_cons_succ]
          refine wpAnyH_take (i := 4) (oi := { dst := some 97, op := Op.move (Operand.tmp 17), type := 23, pos := "law.go:170", after := #[], guard := none }) (v := (.slice (some ⟨g, o, none⟩) 7 c)) rfl (by kernel_rfl) (by kernel_rfl) (by kernel_rfl) (fun _ _ _ h => h) (Or.inl ⟨by rfl, fun W hW => ?y5⟩) hs0 ?_
          case y5 => go_simp
          try dsimp only [Act.put]
          try simp only [List.setIfInBounds_toArray, List.set_cons_zero, List.set_cons_succ]
          refine wpAnyH_take (i := 5) (oi := { dst := some 98, op := Op.move (Operand.tmp 23), type := 3, pos := "law.go:170", after := #[], guard := none }) (v := (.int .i64 ((k : Nat) : Int))) rfl (by kernel_rfl) (by kernel_rfl) (by kernel_rfl) (fun _ _ _ h => h) (Or.inl ⟨by rfl, fun W hW => ?y6⟩) hs0 ?_
          case y6 => go_simp
          try dsimp only [Act.put]
          try simp only [List.setIfInBounds_toArray, List.set_cons_zero, List.set_cons_succ]
          refine wpAnyH_take (i := 6) (oi := { dst := some 99, op := Op.indexAddr 23 (Operand.tmp 97) (Operand.tmp 98), type := 0, pos := "law.go:170", after := #[{ on := 4, ground := Ground.data }, { on := 5, ground := Ground.data }], guard := none }) (v := (.pointer (some ⟨g, o + k * 2, none⟩))) rfl (by kernel_rfl) (by kernel_rfl) (by kernel_rfl) (fun _ _ _ h => h) (Or.inl ⟨by rfl, fun W hW => ?y7⟩) hs0 ?_
          case y7 => go_simp
          try dsimp only [Act.put]
          try simp only [List.setIfInBounds_toArray, List.set_cons_zero, List.set_cons_succ]
          refine wpAnyH_take (i := 7) (oi := { dst := some 100, op := Op.load 27 (Operand.tmp 99), type := 27, pos := "law.go:170", after := #[{ on := 6, ground := Ground.data }], guard := none }) (v := (.agg #[.slice A3 n3 k3, .slice A4 n4 k4])) rfl (by kernel_rfl) (by kernel_rfl) (by kernel_rfl) (fun _ _ _ h => h) (Or.inl ⟨by rfl, fun W hW => by have hc1 := hW.2.1; have hc2 := hW.2.2; go_simp⟩) hs0 ?_
          try dsimp only [Act.put]
          try simp only [List.setIfInBounds_toArray, List.set_cons_zero, List.set_cons_succ]
          refine wpAnyH_take (i := 9) (oi := { dst := some 102, op := Op.move (Operand.tmp 17), type := 23, pos := "law.go:170", after := #[], guard := none }) (v := (.slice (some ⟨g, o, none⟩) 7 c)) rfl (by kernel_rfl) (by kernel_rfl) (by kernel_rfl) (fun _ _ _ h => h) (Or.inl ⟨by rfl, fun W hW => ?y9⟩) hs0 ?_
          case y9 => go_simp
          try dsimp only [Act.put]
          try simp only [List.setIfInBounds_toArray, List.set_cons_zero, List.set_cons_succ]
          refine wpAnyH_take (i := 10) (oi := { dst := some 103, op := Op.move (Operand.tmp 18), type := 3, pos := "law.go:170", after := #[], guard := none }) (v := (.int .i64 ((i : Nat) : Int))) rfl (by kernel_rfl) (by kernel_rfl) (by kernel_rfl) (fun _ _ _ h => h) (Or.inl ⟨by rfl, fun W hW => ?y10⟩) hs0 ?_
          case y10 => go_simp
          try dsimp only [Act.put]
          try simp only [List.setIfInBounds_toArray, List.set_cons_zero, List.set_cons_succ]
          refine wpAnyH_take (i := 11) (oi := { dst := some 104, op := Op.indexAddr 23 (Operand.tmp 102) (Operand.tmp 103), type := 0, pos := "law.go:170", after := #[{ on := 9, ground := Ground.data }, { on := 10, ground := Ground.data }], guard := none }) (v := (.pointer (some ⟨g, o + i * 2, none⟩))) rfl (by kernel_rfl) (by kernel_rfl) (by kernel_rfl) (fun _ _ _ h => h) (Or.inl ⟨by rfl, fun W hW => ?y11⟩) hs0 ?_
          case y11 => go_simp
          try dsimp only [Act.put]
          try simp only [List.setIfInBounds_toArray, List.set_cons_zero, List.set_cons_succ]
          refine wpAnyH_take (i := 12) (oi := { dst := some 105, op := Op.load 27 (Operand.tmp 104), type := 27, pos := "law.go:170", after := #[{ on := 11, ground := Ground.data }], guard := none }) (v := (.agg #[.slice A1 n1 k1, .slice A2 n2 k2])) rfl (by kernel_rfl) (by kernel_rfl) (by kernel_rfl) (fun _ _ _ h => h) (Or.inl ⟨by rfl, fun W hW => by have hc1 := hW.1.1; have hc2 := hW.1.2; go_simp⟩) hs0 ?_
          try dsimp only [Act.put]
          try simp only [List.setIfInBounds_toArray, List.set_cons_zero, List.set_cons_succ]
          refine wpAnyH_take (i := 13) (oi := { dst := some 106, op := Op.move (Operand.tmp 17), type := 23, pos := "law.go:170", after := #[], guard := none }) (v := (.slice (some ⟨g, o, none⟩) 7 c)) rfl (by kernel_rfl) (by kernel_rfl) (by kernel_rfl) (fun _ _ _ h => h) (Or.inl ⟨by rfl, fun W hW => ?y13⟩) hs0 ?_
          case y13 => go_simp
          try dsimp only [Act.put]
          try simp only [List.setIfInBounds_toArray, List.set_cons_zero, List.set_cons_succ]
          refine wpAnyH_take (i := 14) (oi := { dst := some 107, op := Op.move (Operand.tmp 23), type := 3, pos := "law.go:170", after := #[], guard := none }) (v := (.int .i64 ((k : Nat) : Int))) rfl (by kernel_rfl) (by kernel_rfl) (by kernel_rfl) (fun _ _ _ h => h) (Or.inl ⟨by rfl, fun W hW => ?y14⟩) hs0 ?_
          case y14 => go_simp
          try dsimp only [Act.put]
          try simp only [List.setIfInBounds_toArray, List.set_cons_zero, List.set_cons_succ]
          refine wpAnyH_take (i := 15) (oi := { dst := some 108, op := Op.indexAddr 23 (Operand.tmp 106) (Operand.tmp 107), type := 0, pos := "law.go:170", after := #[{ on := 13, ground := Ground.data }, { on := 14, ground := Ground.data }], guard := none }) (v := (.pointer (some ⟨g, o + k * 2, none⟩))) rfl (by kernel_rfl) (by kernel_rfl) (by kernel_rfl) (fun _ _ _ h => h) (Or.inl ⟨by rfl, fun W hW => ?y15⟩) hs0 ?_
          case y15 => go_simp
          try dsimp only [Act.put]
          try simp only [List.setIfInBounds_toArray, List.set_cons_zero, List.set_cons_succ]
          refine wpAnyH_take (i := 16) (oi := { dst := some 109, op := Op.load 27 (Operand.tmp 108), type := 27, pos := "law.go:170", after := #[{ on := 15, ground := Ground.data }], guard := none }) (v := (.agg #[.slice A3 n3 k3, .slice A4 n4 k4])) rfl (by kernel_rfl) (by kernel_rfl) (by kernel_rfl) (fun _ _ _ h => h) (Or.inl ⟨by rfl, fun W hW => by have hc1 := hW.2.1; have hc2 := hW.2.2; go_simp⟩) hs0 ?_
          try dsimp only [Act.put]
          try simp only [List.setIfInBounds_toArray, List.set_cons_zero, List.set_cons_succ]
          refine wpAnyH_ready (rs := [8]) (by kernel_rfl) (by simp) ?_
          refine AllReadyH.cons (o := { dst := some 101, op := Op.call { callee := Callee.value (Operand.func 31), args := #[Operand.tmp 96, Operand.tmp 100], argTypes := #[27, 27] }, type := 4, pos := "law.go:170", after := #[{ on := 3, ground := Ground.data }, { on := 7, ground := Ground.data }], guard := none }) rfl (fun K hK => ?_) AllReadyH.nil
          rw [if_pos (by rfl)]
          go_simp
          refine (HO.out _ k0.out).mono ?_
          rintro e w17 ⟨rfl, hb⟩
          have k18 := Lib.hid (below_step k0.out hb)
          have hs19 := HSW.out _ k18.out
          clear hb
          go_wp2_with fail
          refine hK.out _ _ hs19 (fun _ => ?_)
          clear hK K
          try dsimp only [Act.put]
          try simp only [List.setIfInBounds_toArray, List.set_cons_zero, List.set_cons_succ]
          refine wpAnyH_ready (rs := [17]) (by kernel_rfl) (by simp) ?_
          refine AllReadyH.cons (o := { dst := some 110, op := Op.call { callee := Callee.value (Operand.func 15), args := #[Operand.tmp 105, Operand.tmp 109], argTypes := #[27, 27] }, type := 4, pos := "law.go:170", after := #[{ on := 12, ground := Ground.data }, { on := 16, ground := Ground.data }, { on := 8, ground := Ground.chain }], guard := none }) rfl (fun K hK => ?_) AllReadyH.nil
          rw [if_pos (by rfl)]
          go_simp
          refine (HQ.out _ k18.out).mono ?_
          rintro e w20 ⟨rfl, hb⟩
          have k21 := Lib.hid (below_step k18.out hb)
          have hs22 := HSW.out _ k21.out
          clear hb
          go_wp2_with fail
          refine hK.out _ _ hs22 (fun _ => ?_)
          clear hK K
          try dsimp only [Act.put]
          try simp only [List.setIfInBounds_toArray, List.set_cons_zero, List.set_cons_succ]
          refine wpAnyH_take (i := 18) (oi := { dst := some 111, op := Op.binOp BinOp.neq 4 (Operand.tmp 101) (Operand.tmp 110) 4, type := 4, pos := "law.go:170", after := #[{ on := 8, ground := Ground.data }, { on := 17, ground := Ground.data }], guard := none }) (v := .bool false) rfl (by kernel_rfl) (by kernel_rfl) (by kernel_rfl) (fun _ _ _ h => h) (Or.inl ⟨by rfl, fun W hW => ?y23⟩) hs22 ?_
          case y23 => go_simp
          try dsimp only [Act.put]
          try simp only [List.setIfInBounds_toArray, List.set_cons_zero, List.set_cons_succ]
          refine wpAnyH_done (by kernel_rfl) ?_ _
          try dsimp only [Act.put]
          try simp only [List.setIfInBounds_toArray, List.set_cons_zero, List.set_cons_succ]
          go_wp2_with fail
          go_roundw
          case rel =>
            have hr1 : ∃ q : Nat, q ≤ 7 ∧ (.int .i64 ((k : Int) + 1) : Value) = .int .i64 ((q : Nat) : Int) ∧ Below w1.heap.size w1 w20 := ⟨k + 1, HK.out, by simp, k21.out⟩
            first | exact hr1 | ((repeat apply Exists.intro); exact ⟨hr1, rfl⟩)
          case measure => simp only [intOf]; omega
        · have hin : k = 7 := by omega
          subst hin
          clear hk6 hge
          by_cases h0 : E0 = 0
          · subst h0
            have HPZ := Lib.hid (print_ok HF.out)
            have HPA := Lib.hid (fun W (h : Below w1.heap.size w1 W) => show Calls Tryz.prog 32 #[.string S] W (RtP W (r, 0)) by rw [HSX.out]; exact parse_two (HM.out.below H2.out (below_step BW.out h)) (by have := H2.out; have := BW.out.size; have := h.size; omega) HOR.out.1 HF.out)
            have HDE := Lib.hid (fun W v (h : Bw W v (b ++ rest)) => show Calls Tryz.prog 33 #[v] W (DeP W (r, b.length, 0)) by have h' := h; rw [HBQ.out] at h' ⊢; exact dec_two HOR.out.1 HPZ.out HOR.out.2.1 HOR.out.2.2 h' HL7.out)
            have HGD := Lib.hid (show Gd5 (r, 0) from ⟨HOR.out.1, vld_lens HPZ.out⟩)
            have HE1 := Lib.hid (fun W (h : Below w1.heap.size w1 W) => show Calls Tryz.prog 29 #[.agg #[.slice A1 n1 k1, .slice A2 n2 k2]] W (EnP W b) by rw [HBQ.out]; exact encode_any (KA.out W h).s1 (KA.out W h).s2 (KA.out W h).ok.1 (KA.out W h).ok.2 (by have := (KA.out W h).l1; omega) (by have := (KA.out W h).l2; omega))
            clear HSX HF HPZ HOR HBQ HCS
            obtain ⟨c1, c2⟩ := HD1.out _ BR.out
            go_wp2_with fail
            refine (HE1.out _ BR.out).mono ?_
            rintro e w4 ⟨vb, rfl, ho, hb⟩
            have B4 := Lib.hid (below_step BR.out hb)
            have SB4 := Lib.hid (own_bw ho)
            obtain ⟨nb, hnb⟩ : ∃ n, n = b.length := ⟨_, rfl⟩
            have HNB := Lib.hid hnb
            obtain ⟨Ab, cb, rfl, hnilb, _⟩ := bw_form SB4.out
            have HNIL := Lib.hid hnilb
            rw [← hnb] at SB4 ⊢
            rw [← hnb] at HDE
            clear ho hb hnb hnilb c1 c2 BR HE1
            go_wp2_with fail
            refine (HPA.out _ B4.out).mono ?_
            rintro e w5 ⟨v, rfl, hrv, hb⟩
            obtain ⟨u1, u2, rfl, hk⟩ := gd_rk (X := (r, 0)) hrv HGD.out
            obtain ⟨C1, m1, j1, e1⟩ := sl_form hk.s1
            obtain ⟨C2, m2, j2, e2⟩ := sl_form hk.s2
            subst e1 e2
            have B5 := Lib.hid (below_step B4.out hb); have SB5 := Lib.hid (SB4.out.below hb); have K5 := Lib.hid hk
            clear hb hk hrv B4 SB4 HPA
            go_upto_region 17 with fail
            have VX6 := Lib.hid (Bx.new K5.out); have hbx := boxb w5 (.slice C1 m1 j1) (.slice C2 m2 j2)
            have B6 := Lib.hid (below_step B5.out hbx); have SB6 := Lib.hid (SB5.out.below hbx)
            clear hbx B5 SB5 K5
            obtain ⟨gx, hgx⟩ : ∃ g, w5.heap.size = g := ⟨_, rfl⟩
            obtain ⟨w6, hw6⟩ : ∃ W, w5.alloc (.cells #[.slice C1 m1 j1, .slice C2 m2 j2] 27) = W := ⟨_, rfl⟩
            rw [hw6] at VX6 B6 SB6 ⊢
            rw [hgx] at VX6 ⊢
            clear hgx hw6
            have hbt := (Below.refl w6.heap.size w6).alloc (Nat.le_refl _) (.cells #[] 5)
            have HBT := Lib.hid hbt
            have HLIT := Lib.hid (World.ownsRow_lit (base := w6.heap.size) (e := 5) (size := 1) w6 #[] 0 (Nat.le_refl _) (by unfold maxLen; omega) rfl)
            have HRB := Lib.hid (show Rd (w6.alloc (.cells #[] 5)) (w6.alloc (.cells #[] 5)).heap.size Ab (B8 b) by
              obtain ⟨A', c', e, _, _, hr⟩ := SB6.out.below hbt
              injection e with e1 e2 e3
              rw [e1]; exact hr)
            clear hbt
            go_wp2_with (at_builtin; (refine W1.wpList_append_rd rfl (.tmp 125) (.tmp 126) rfl w6.heap.size (.slice (some ⟨w6.heap.size, 0, none⟩) 0 0) 0 [] rfl HLIT.out Ab nb cb (w6.alloc (.cells #[] 5)).heap.size b rfl HNIL.out HNB.out.symm HRB.out (by have := HBL0.out.2; have := HNB.out; omega) HBT.out.size ?_))
            intro v7 w7 ho hg
            have hb7 := HBT.out.grown hg HBT.out.size (fun q e => (HLIT.out.lt q e).1)
            have HO7 := Lib.hid ho; have HB7 := Lib.hid hb7
            have HR7 := Lib.hid (HRW.out _ (below_step BW.out (below_step B6.out hb7)))
            have HRB := Lib.hid (show Rd w7 w7.heap.size A7 (B8 rest) by
              obtain ⟨A', c', e, _, _, hr⟩ := HR7.out
              injection e with e1 e2 e3
              rw [e1]; exact hr)
            have HN7 := Lib.hid (show rest.length = n7 ∧ (A7 = none → k7 = 0) by
              obtain ⟨A', c', e, _, hn, hr⟩ := HR7.out
              injection e with e1 e2 e3
              subst e1 e3
              exact ⟨e2.symm, hn⟩)
            clear ho hg hb7 HR7
            go_wp2_with (at_builtin; (refine W1.wpList_append_rd rfl (.tmp 127) (.tmp 128) rfl w6.heap.size v7 nb (B8 b) rfl HO7.out A7 n7 k7 w7.heap.size rest rfl HN7.out.2 HN7.out.1 HRB.out (by have := HBL0.out.2; have := HNB.out; have := HL7.out; have := HN7.out.1; omega) HB7.out.size ?_))
            intro v8 w8 ho hg
            have hb8 := HB7.out.grown hg HB7.out.size (fun q e => (HO7.out.lt q e).1)
            rw [← B8_append] at ho
            have hl8 : nb + n7 = (b ++ rest).length := by rw [List.length_append, ← HNB.out, HN7.out.1]
            rw [hl8] at ho
            have S8 := Lib.hid (own_bw ho)
            have B8 := Lib.hid (below_step B6.out hb8); have SB8 := Lib.hid (SB6.out.below hb8); have VX8 := Lib.hid (VX6.out.below hb8)
            clear ho hg hb8 hl8 HO7 HB7 HRB HN7 HBT HLIT B6 SB6 VX6
            go_wp2_with fail
            refine (HDE.out _ _ S8.out).mono ?_
            rintro e w9 ⟨v, rfl, hrv, hb⟩
            obtain ⟨u1, u2, rfl, hk⟩ := gd_rk (X := (r, 0)) hrv HGD.out
            obtain ⟨D1, p1, q1, e1⟩ := sl_form hk.s1
            obtain ⟨D2, p2, q2, e2⟩ := sl_form hk.s2
            subst e1 e2
            have B9 := Lib.hid (below_step B8.out hb); have VX9 := Lib.hid (VX8.out.below hb); have K9 := Lib.hid hk
            clear hb hk hrv B8 SB8 VX8 S8 HDE
            have hnn : (((nb : Nat) : Int) != ((nb : Nat) : Int)) = false := by simp
            go_upto_region 18 with fail
            have VY := Lib.hid (Bx.new K9.out); have hbx := boxb w9 (.slice D1 p1 q1) (.slice D2 p2 q2)
            have B12 := Lib.hid (below_step B9.out hbx); have VX := Lib.hid (VX9.out.below hbx)
            clear hbx B9 K9 VX9
            obtain ⟨gy, hgy⟩ : ∃ g, w9.heap.size = g := ⟨_, rfl⟩
            obtain ⟨w12, hw12⟩ : ∃ W, w9.alloc (.cells #[.slice D1 p1 q1, .slice D2 p2 q2] 27) = W := ⟨_, rfl⟩
            rw [hw12] at VX VY B12 ⊢
            rw [hgy] at VY ⊢
            clear hgy hw12
            refine wp_region_held (S := fun W => (W.cell? ⟨g, o + i * 2, none⟩ = some (.slice A1 n1 k1) ∧ W.cell? ⟨g, o + i * 2 + 1, none⟩ = some (.slice A2 n2 k2)) ∧ Blk W gx 27 [.slice C1 m1 j1, .slice C2 m2 j2] ∧ Blk W gy 27 [.slice D1 p1 q1, .slice D2 p2 q2]) (by kernel_rfl) ?_
            change wpAnyH _ _ _ _ _ _ _ _ (World.drew w12)
            have k0 : Hid (Below w1.heap.size w1 (World.drew w12)) := Lib.hid (below_drewN B12.out 1)
            have VX0 : Hid (Bx (World.drew w12) gx C1 m1 j1 C2 m2 j2 r) := Lib.hid (VX.out.below (below_drewN (Below.refl w12.heap.size w12) 1)); have VY0 : Hid (Bx (World.drew w12) gy D1 p1 q1 D2 p2 q2 r) := Lib.hid (VY.out.below (below_drewN (Below.refl w12.heap.size w12) 1))
            have hs0 : ((World.drew w12).cell? ⟨g, o + i * 2, none⟩ = some (.slice A1 n1 k1) ∧ (World.drew w12).cell? ⟨g, o + i * 2 + 1, none⟩ = some (.slice A2 n2 k2)) ∧ Blk (World.drew w12) gx 27 [.slice C1 m1 j1, .slice C2 m2 j2] ∧ Blk (World.drew w12) gy 27 [.slice D1 p1 q1, .slice D2 p2 q2] := And.intro (HD1.out _ k0.out) (And.intro VX0.out.b VY0.out.b)
            generalize World.drew w12 = Wd at hs0 k0 VX0 VY0 ⊢
            refine wpAnyH_take (i := 0) (oi := { dst := some 134, op := Op.move (Operand.tmp 26), type := 28, pos := "law.go:180", after := #[], guard := none }) (v := .int .i64 0) rfl (by kernel_rfl) (by kernel_rfl) (by kernel_rfl) (fun _ _ _ h => h) (Or.inl ⟨by rfl, fun W hW => ?y1⟩) hs0 ?_
            case y1 => go_simp
            try dsimp only [Act.put]
            try simp only [List.setIfInBounds_toArray, List.set_cons_zero, List.set_cons_succ]
            refine wpAnyH_take (i := 1) (oi := { dst := some 135, op := Op.binOp BinOp.neq 28 (Operand.tmp 134) (Operand.const (Value.int IntKind.i64 0)) 28, type := 4, pos := "law.go:180", after := #[{ on := 0, ground := Ground.data }], guard := none }) (v := .bool false) rfl (by kernel_rfl) (by kernel_rfl) (by kernel_rfl) (fun _ _ _ h => h) (Or.inl ⟨by rfl, fun W hW => ?y2⟩) hs0 ?_
            case y2 => go_simp
            try dsimp only [Act.put]
            try simp only [List.setIfInBounds_toArray, List.set_cons_zero, List.set_cons_succ]
            refine wpAnyH_take (i := 2) (oi := { dst := some 136, op := Op.move (Operand.tmp 135), type := 4, pos := "law.go:180", after := #[{ on := 1, ground := Ground.data }], guard := none }) (v := .bool false) rfl (by kernel_rfl) (by kernel_rfl) (by kernel_rfl) (fun _ _ _ h => h) (Or.inl ⟨by rfl, fun W hW => ?y3⟩) hs0 ?_
            case y3 => go_simp
            try dsimp only [Act.put]
            try simp only [List.setIfInBounds_toArray, List.set_cons_zero, List.set_cons_succ]
            refine wpAnyH_take (i := 3) (oi := { dst := some 137, op := Op.move (Operand.tmp 29), type := 28, pos := "law.go:180", after := #[{ on := 2, ground := Ground.guard }], guard := some (2, false) }) (v := .int .i64 0) rfl (by kernel_rfl) (by kernel_rfl) (by kernel_rfl) (fun _ _ _ h => h) (Or.inl ⟨by rfl, fun W hW => ?y4⟩) hs0 ?_
            case y4 => go_simp
            try dsimp only [Act.put]
            try simp only [List.setIfInBounds_toArray, List.set_cons_zero, List.set_cons_succ]
            refine wpAnyH_take (i := 4) (oi := { dst := some 138, op := Op.binOp BinOp.neq 28 (Operand.tmp 137) (Operand.const (Value.int IntKind.i64 0)) 28, type := 4, pos := "law.go:180", after := #[{ on := 3, ground := Ground.data }, { on := 2, ground := Ground.guard }], guard := some (2, false) }) (v := .bool false) rfl (by kernel_rfl) (by kernel_rfl) (by kernel_rfl) (fun _ _ _ h => h) (Or.inl ⟨by rfl, fun W hW => ?y5⟩) hs0 ?_
            case y5 => go_simp
            try dsimp only [Act.put]
            try simp only [List.setIfInBounds_toArray, List.set_cons_zero, List.set_cons_succ]
            refine wpAnyH_take (i := 5) (oi := { dst := some 139, op := Op.pick (Operand.tmp 136) (Operand.const (Value.bool true)) (Operand.tmp 138), type := 4, pos := "law.go:180", after := #[{ on := 2, ground := Ground.data }, { on := 4, ground := Ground.data }], guard := none }) (v := .bool false) rfl (by kernel_rfl) (by kernel_rfl) (by kernel_rfl) (fun _ _ _ h => h) (Or.inl ⟨by rfl, fun W hW => ?y6⟩) hs0 ?_
            case y6 => go_simp
            try dsimp only [Act.put]
            try simp only [List.setIfInBounds_toArray, List.set_cons_zero, List.set_cons_succ]
            refine wpAnyH_take (i := 6) (oi := { dst := some 140, op := Op.move (Operand.tmp 139), type := 4, pos := "law.go:180", after := #[{ on := 5, ground := Ground.data }, { on := 2, ground := Ground.chain }], guard := none }) (v := .bool false) rfl (by kernel_rfl) (by kernel_rfl) (by kernel_rfl) (fun _ _ _ h => h) (Or.inl ⟨by rfl, fun W hW => ?y7⟩) hs0 ?_
            case y7 => go_simp
            try dsimp only [Act.put]
            try simp only [List.setIfInBounds_toArray, List.set_cons_zero, List.set_cons_succ]
            refine wpAnyH_take (i := 7) (oi := { dst := some 141, op := Op.move (Operand.tmp 28), type := 3, pos := "law.go:180", after := #[{ on := 6, ground := Ground.guard }], guard := some (6, false) }) (v := .int .i64 ((nb : Nat) : Int)) rfl (by kernel_rfl) (by kernel_rfl) (by kernel_rfl) (fun _ _ _ h => h) (Or.inl ⟨by rfl, fun W hW => ?y8⟩) hs0 ?_
            case y8 => go_simp
            try dsimp only [Act.put]
            try simp only [List.setIfInBounds_toArray, List.set_cons_zero, List.set_cons_succ]
            refine wpAnyH_take (i := 8) (oi := { dst := some 142, op := Op.move (Operand.tmp 24), type := 38, pos := "law.go:180", after := #[{ on := 6, ground := Ground.guard }], guard := some (6, false) }) (v := .slice Ab nb cb) rfl (by kernel_rfl) (by kernel_rfl) (by kernel_rfl) (fun _ _ _ h => h) (Or.inl ⟨by rfl, fun W hW => ?y9⟩) hs0 ?_
            case y9 => go_simp
            try dsimp only [Act.put]
            try simp only [List.setIfInBounds_toArray, List.set_cons_zero, List.set_cons_succ]
            refine wpAnyH_take (i := 9) (oi := { dst := some 143, op := Op.call { callee := Callee.builtin Builtin.len, args := #[Operand.tmp 142], argTypes := #[38] }, type := 3, pos := "law.go:180", after := #[{ on := 8, ground := Ground.data }, { on := 6, ground := Ground.guard }], guard := some (6, false) }) (v := .int .i64 ((nb : Nat) : Int)) rfl (by kernel_rfl) (by kernel_rfl) (by kernel_rfl) (fun _ _ _ h => h) (Or.inl ⟨by rfl, fun W hW => ?y10⟩) hs0 ?_
            case y10 => go_simp
            try dsimp only [Act.put]
            try simp only [List.setIfInBounds_toArray, List.set_cons_zero, List.set_cons_succ]
            refine wpAnyH_take (i := 10) (oi := { dst := some 144, op := Op.binOp BinOp.neq 3 (Operand.tmp 141) (Operand.tmp 143) 3, type := 4, pos := "law.go:180", after := #[{ on := 7, ground := Ground.data }, { on := 9, ground := Ground.data }, { on := 6, ground := Ground.guard }], guard := some (6, false) }) (v := .bool false) rfl (by kernel_rfl) (by kernel_rfl) (by kernel_rfl) (fun _ _ _ h => h) (Or.inl ⟨by rfl, fun W hW => ?y11⟩) hs0 ?_
            case y11 => go_simp
            try dsimp only [Act.put]
            try simp only [List.setIfInBounds_toArray, List.set_cons_zero, List.set_cons_succ]
            refine wpAnyH_take (i := 11) (oi := { dst := some 145, op := Op.pick (Operand.tmp 140) (Operand.const (Value.bool true)) (Operand.tmp 144), type := 4, pos := "law.go:180", after := #[{ on := 6, ground := Ground.data }, { on := 10, ground := Ground.data }], guard := none }) (v := .bool false) rfl (by kernel_rfl) (by kernel_rfl) (by kernel_rfl) (fun _ _ _ h => h) (Or.inl ⟨by rfl, fun W hW => ?y12⟩) hs0 ?_
            case y12 => go_simp
            try dsimp only [Act.put]
            try simp only [List.setIfInBounds_toArray, List.set_cons_zero, List.set_cons_succ]
            refine wpAnyH_take (i := 12) (oi := { dst := some 146, op := Op.move (Operand.tmp 145), type := 4, pos := "law.go:180", after := #[{ on := 11, ground := Ground.data }, { on := 6, ground := Ground.chain }], guard := none }) (v := .bool false) rfl (by kernel_rfl) (by kernel_rfl) (by kernel_rfl) (fun _ _ _ h => h) (Or.inl ⟨by rfl, fun W hW => ?y13⟩) hs0 ?_
            case y13 => go_simp
            try dsimp only [Act.put]
            try simp only [List.setIfInBounds_toArray, List.set_cons_zero, List.set_cons_succ]
            refine wpAnyH_take (i := 13) (oi := { dst := some 147, op := Op.load 27 (Operand.tmp 25), type := 27, pos := "law.go:180", after := #[{ on := 12, ground := Ground.guard }], guard := some (12, false) }) (v := (.agg #[.slice C1 m1 j1, .slice C2 m2 j2])) rfl (by kernel_rfl) (by kernel_rfl) (by kernel_rfl) (fun _ _ _ h => h) (Or.inl ⟨by rfl, fun W hW => by obtain ⟨hc1, hc2, hf1, hf2⟩ := blk_cells2 hW.2.1; go_simp⟩) hs0 ?_
            try dsimp only [Act.put]
            try simp only [List.setIfInBounds_toArray, List.set_cons_zero, List.set_cons_succ]
            refine wpAnyH_take (i := 14) (oi := { dst := some 148, op := Op.move (Operand.tmp 17), type := 23, pos := "law.go:180", after := #[{ on := 12, ground := Ground.guard }], guard := some (12, false) }) (v := (.slice (some ⟨g, o, none⟩) 7 c)) rfl (by kernel_rfl) (by kernel_rfl) (by kernel_rfl) (fun _ _ _ h => h) (Or.inl ⟨by rfl, fun W hW => ?y15⟩) hs0 ?_
            case y15 => go_simp
            try dsimp only [Act.put]
            try simp only [List.setIfInBounds_toArray, List.set_cons_zero, List.set_cons_succ]
            refine wpAnyH_take (i := 15) (oi := { dst := some 149, op := Op.move (Operand.tmp 18), type := 3, pos := "law.go:180", after := #[{ on := 12, ground := Ground.guard }], guard := some (12, false) }) (v := (.int .i64 ((i : Nat) : Int))) rfl (by kernel_rfl) (by kernel_rfl) (by kernel_rfl) (fun _ _ _ h => h) (Or.inl ⟨by rfl, fun W hW => ?y16⟩) hs0 ?_
            case y16 => go_simp
            try dsimp only [Act.put]
            try simp only [List.setIfInBounds_toArray, List.set_cons_zero, List.set_cons_succ]
            refine wpAnyH_take (i := 16) (oi := { dst := some 150, op := Op.indexAddr 23 (Operand.tmp 148) (Operand.tmp 149), type := 0, pos := "law.go:180", after := #[{ on := 14, ground := Ground.data }, { on := 15, ground := Ground.data }, { on := 12, ground := Ground.guard }], guard := some (12, false) }) (v := (.pointer (some ⟨g, o + i * 2, none⟩))) rfl (by kernel_rfl) (by kernel_rfl) (by kernel_rfl) (fun _ _ _ h => h) (Or.inl ⟨by rfl, fun W hW => ?y17⟩) hs0 ?_
            case y17 => go_simp
            try dsimp only [Act.put]
            try simp only [List.setIfInBounds_toArray, List.set_cons_zero, List.set_cons_succ]
            refine wpAnyH_take (i := 17) (oi := { dst := some 151, op := Op.load 27 (Operand.tmp 150), type := 27, pos := "law.go:180", after := #[{ on := 16, ground := Ground.data }, { on := 12, ground := Ground.guard }], guard := some (12, false) }) (v := (.agg #[.slice A1 n1 k1, .slice A2 n2 k2])) rfl (by kernel_rfl) (by kernel_rfl) (by kernel_rfl) (fun _ _ _ h => h) (Or.inl ⟨by rfl, fun W hW => by have hc1 := hW.1.1; have hc2 := hW.1.2; go_simp⟩) hs0 ?_
            try dsimp only [Act.put]
            try simp only [List.setIfInBounds_toArray, List.set_cons_zero, List.set_cons_succ]
            refine wpAnyH_ready (rs := [18]) (by kernel_rfl) (by simp) ?_
            refine AllReadyH.cons (o := { dst := some 152, op := Op.call { callee := Callee.value (Operand.func 15), args := #[Operand.tmp 147, Operand.tmp 151], argTypes := #[27, 27] }, type := 4, pos := "law.go:180", after := #[{ on := 13, ground := Ground.data }, { on := 17, ground := Ground.data }, { on := 12, ground := Ground.chain }, { on := 12, ground := Ground.guard }], guard := some (12, false) }) rfl (fun K hK => ?_) AllReadyH.nil
            rw [if_pos (by rfl)]
            go_simp
            refine (rsame_true VX0.out.k (KA.out _ k0.out)).mono ?_
            rintro e w19 ⟨rfl, hb⟩
            have k20 := Lib.hid (below_step k0.out hb); have VX22 := Lib.hid (VX0.out.below hb); have VY23 := Lib.hid (VY0.out.below hb)
            have hs21 := And.intro (HD1.out _ k20.out) (And.intro VX22.out.b VY23.out.b)
            clear hb
            go_wp2_with fail
            refine hK.out _ _ hs21 (fun _ => ?_)
            clear hK K
            try dsimp only [Act.put]
            try simp only [List.setIfInBounds_toArray, List.set_cons_zero, List.set_cons_succ]
            refine wpAnyH_take (i := 19) (oi := { dst := some 153, op := Op.unOp UnOp.not 4 (Operand.tmp 152), type := 4, pos := "law.go:180", after := #[{ on := 18, ground := Ground.data }, { on := 12, ground := Ground.guard }], guard := some (12, false) }) (v := .bool false) rfl (by kernel_rfl) (by kernel_rfl) (by kernel_rfl) (fun _ _ _ h => h) (Or.inl ⟨by rfl, fun W hW => ?y24⟩) hs21 ?_
            case y24 => go_simp
            try dsimp only [Act.put]
            try simp only [List.setIfInBounds_toArray, List.set_cons_zero, List.set_cons_succ]
            refine wpAnyH_take (i := 20) (oi := { dst := some 154, op := Op.pick (Operand.tmp 146) (Operand.const (Value.bool true)) (Operand.tmp 153), type := 4, pos := "law.go:180", after := #[{ on := 12, ground := Ground.data }, { on := 19, ground := Ground.data }], guard := none }) (v := .bool false) rfl (by kernel_rfl) (by kernel_rfl) (by kernel_rfl) (fun _ _ _ h => h) (Or.inl ⟨by rfl, fun W hW => ?y25⟩) hs21 ?_
            case y25 => go_simp
            try dsimp only [Act.put]
            try simp only [List.setIfInBounds_toArray, List.set_cons_zero, List.set_cons_succ]
            refine wpAnyH_take (i := 21) (oi := { dst := some 155, op := Op.move (Operand.tmp 154), type := 4, pos := "law.go:180", after := #[{ on := 20, ground := Ground.data }, { on := 18, ground := Ground.chain }], guard := none }) (v := .bool false) rfl (by kernel_rfl) (by kernel_rfl) (by kernel_rfl) (fun _ _ _ h => h) (Or.inl ⟨by rfl, fun W hW => ?y26⟩) hs21 ?_
            case y26 => go_simp
            try dsimp only [Act.put]
            try simp only [List.setIfInBounds_toArray, List.set_cons_zero, List.set_cons_succ]
            refine wpAnyH_take (i := 22) (oi := { dst := some 156, op := Op.load 27 (Operand.tmp 27), type := 27, pos := "law.go:180", after := #[{ on := 21, ground := Ground.guard }], guard := some (21, false) }) (v := (.agg #[.slice D1 p1 q1, .slice D2 p2 q2])) rfl (by kernel_rfl) (by kernel_rfl) (by kernel_rfl) (fun _ _ _ h => h) (Or.inl ⟨by rfl, fun W hW => by obtain ⟨hc1, hc2, hf1, hf2⟩ := blk_cells2 hW.2.2; go_simp⟩) hs21 ?_
            try dsimp only [Act.put]
            try simp only [List.setIfInBounds_toArray, List.set_cons_zero, List.set_cons_succ]
            refine wpAnyH_take (i := 23) (oi := { dst := some 157, op := Op.move (Operand.tmp 17), type := 23, pos := "law.go:180", after := #[{ on := 21, ground := Ground.guard }], guard := some (21, false) }) (v := (.slice (some ⟨g, o, none⟩) 7 c)) rfl (by kernel_rfl) (by kernel_rfl) (by kernel_rfl) (fun _ _ _ h => h) (Or.inl ⟨by rfl, fun W hW => ?y28⟩) hs21 ?_
            case y28 => go_simp
            try dsimp only [Act.put]
            try simp only [List.setIfInBounds_toArray, List.set_cons_zero, List.set_cons_succ]
            refine wpAnyH_take (i := 24) (oi := { dst := some 158, op := Op.move (Operand.tmp 18), type := 3, pos := "law.go:180", after := #[{ on := 21, ground := Ground.guard }], guard := some (21, false) }) (v := (.int .i64 ((i : Nat) : Int))) rfl (by kernel_rfl) (by kernel_rfl) (by kernel_rfl) (fun _ _ _ h => h) (Or.inl ⟨by rfl, fun W hW => ?y29⟩) hs21 ?_
            case y29 => go_simp
            try dsimp only [Act.put]
            try simp only [List.setIfInBounds_toArray, List.set_cons_zero, List.set_cons_succ]
            refine wpAnyH_take (i := 25) (oi := { dst := some 159, op := Op.indexAddr 23 (Operand.tmp 157) (Operand.tmp 158), type := 0, pos := "law.go:180", after := #[{ on := 23, ground := Ground.data }, { on := 24, ground := Ground.data }, { on := 21, ground := Ground.guard }], guard := some (21, false) }) (v := (.pointer (some ⟨g, o + i * 2, none⟩))) rfl (by kernel_rfl) (by kernel_rfl) (by kernel_rfl) (fun _ _ _ h => h) (Or.inl ⟨by rfl, fun W hW => ?y30⟩) hs21 ?_
            case y30 => go_simp
            try dsimp only [Act.put]
            try simp only [List.setIfInBounds_toArray, List.set_cons_zero, List.set_cons_succ]
            refine wpAnyH_take (i := 26) (oi := { dst := some 160, op := Op.load 27 (Operand.tmp 159), type := 27, pos := "law.go:180", after := #[{ on := 25, ground := Ground.data }, { on := 21, ground := Ground.guard }], guard := some (21, false) }) (v := (.agg #[.slice A1 n1 k1, .slice A2 n2 k2])) rfl (by kernel_rfl) (by kernel_rfl) (by kernel_rfl) (fun _ _ _ h => h) (Or.inl ⟨by rfl, fun W hW => by have hc1 := hW.1.1; have hc2 := hW.1.2; go_simp⟩) hs21 ?_
            try dsimp only [Act.put]
            try simp only [List.setIfInBounds_toArray, List.set_cons_zero, List.set_cons_succ]
            refine wpAnyH_ready (rs := [27]) (by kernel_rfl) (by simp) ?_
            refine AllReadyH.cons (o := { dst := some 161, op := Op.call { callee := Callee.value (Operand.func 15), args := #[Operand.tmp 156, Operand.tmp 160], argTypes := #[27, 27] }, type := 4, pos := "law.go:180", after := #[{ on := 22, ground := Ground.data }, { on := 26, ground := Ground.data }, { on := 21, ground := Ground.chain }, { on := 21, ground := Ground.guard }], guard := some (21, false) }) rfl (fun K hK => ?_) AllReadyH.nil
            rw [if_pos (by rfl)]
            go_simp
            refine (rsame_true VY23.out.k (KA.out _ k20.out)).mono ?_
            rintro e w32 ⟨rfl, hb⟩
            have k33 := Lib.hid (below_step k20.out hb); have VX35 := Lib.hid (VX22.out.below hb); have VY36 := Lib.hid (VY23.out.below hb)
            have hs34 := And.intro (HD1.out _ k33.out) (And.intro VX35.out.b VY36.out.b)
            clear hb
            go_wp2_with fail
            refine hK.out _ _ hs34 (fun _ => ?_)
            clear hK K
            try dsimp only [Act.put]
            try simp only [List.setIfInBounds_toArray, List.set_cons_zero, List.set_cons_succ]
            refine wpAnyH_take (i := 28) (oi := { dst := some 162, op := Op.unOp UnOp.not 4 (Operand.tmp 161), type := 4, pos := "law.go:180", after := #[{ on := 27, ground := Ground.data }, { on := 21, ground := Ground.guard }], guard := some (21, false) }) (v := .bool false) rfl (by kernel_rfl) (by kernel_rfl) (by kernel_rfl) (fun _ _ _ h => h) (Or.inl ⟨by rfl, fun W hW => ?y37⟩) hs34 ?_
            case y37 => go_simp
            try dsimp only [Act.put]
            try simp only [List.setIfInBounds_toArray, List.set_cons_zero, List.set_cons_succ]
            refine wpAnyH_take (i := 29) (oi := { dst := some 163, op := Op.pick (Operand.tmp 155) (Operand.const (Value.bool true)) (Operand.tmp 162), type := 4, pos := "law.go:180", after := #[{ on := 21, ground := Ground.data }, { on := 28, ground := Ground.data }], guard := none }) (v := .bool false) rfl (by kernel_rfl) (by kernel_rfl) (by kernel_rfl) (fun _ _ _ h => h) (Or.inl ⟨by rfl, fun W hW => ?y38⟩) hs34 ?_
            case y38 => go_simp
            try dsimp only [Act.put]
            try simp only [List.setIfInBounds_toArray, List.set_cons_zero, List.set_cons_succ]
            refine wpAnyH_done (by kernel_rfl) ?_ _
            try dsimp only [Act.put]
            try simp only [List.setIfInBounds_toArray, List.set_cons_zero, List.set_cons_succ]
            go_wp2_with fail
            go_roundw
            case rel =>
              have hr1 : ∃ q : Nat, q ≤ 7 ∧ (.int .i64 ((i : Int) + 1) : Value) = .int .i64 ((q : Nat) : Int) ∧ Below w1.heap.size w1 w32 := ⟨i + 1, HI.out.1, by simp, k33.out⟩
              first | exact hr1 | ((repeat apply Exists.intro); exact ⟨hr1, rfl⟩)
            case measure => simp only [intOf]; omega
          · have hnz : (((E0 : Nat) : Int) != 0) = true := by rw [bne_iff_ne]; omega
            clear h0
            go_wp2_with fail
            go_roundw
            case rel =>
              have hr1 : ∃ q : Nat, q ≤ 7 ∧ (.int .i64 ((i : Int) + 1) : Value) = .int .i64 ((q : Nat) : Int) ∧ Below w1.heap.size w1 wr := ⟨i + 1, HI.out.1, by simp, BR.out⟩
              first | exact hr1 | ((repeat apply Exists.intro); exact ⟨hr1, rfl⟩)
            case measure => simp only [intOf]; omega
    · have hin : i = 7 := by omega
      subst hin
      have hll := HLL.out
      have hda := HSa.out; have hdb := HSb.out
      clear hi hge HCS HG
      have BF := Lib.hid (below_step BW.out BR.out)
      clear BW BR
      go_wp2_with fail
      refine (HAn.out _).mono ?_
      rintro e w' ⟨rfl, rfl⟩
      go_wp2_with fail
      refine (HWa.out _).mono ?_
      rintro e w2 ⟨va, rfl, hsl, hb⟩
      have B2 := Lib.hid (below_step BF.out hb); have S2 := Lib.hid hsl
      clear hb hsl BF HWa HAn
      go_wp2_with fail
      refine (HDa.out _ _ S2.out).mono ?_
      rintro e w3 ⟨rfl, hb⟩
      have B3 := Lib.hid (below_step B2.out hb)
      clear hb B2 S2 HDa
      go_wp2_with fail
      refine (HAm.out _).mono ?_
      rintro e w' ⟨rfl, rfl⟩
      go_wp2_with fail
      refine (HWb.out _).mono ?_
      rintro e w4 ⟨vb, rfl, hsl, hb⟩
      have B4 := Lib.hid (below_step B3.out hb); have S4 := Lib.hid hsl
      clear hb hsl B3 HWb HAm
      go_wp2_with fail
      refine (HDb.out _ _ S4.out).mono ?_
      rintro e w5 ⟨rfl, hb⟩
      have B5 := Lib.hid (below_step B4.out hb)
      clear hb B4 S4 HDb
      go_upto_region 21 with fail
      rw [bytes_cons 48 l, bytes_app l l, bytes_app (decS a) (decS b)]
      have hal := (Below.refl w5.heap.size w5).alloc (Nat.le_refl _) (.cells #[.string ⟨l.toArray⟩, .string ⟨(48 :: l).toArray⟩, .string ⟨(l ++ 47 :: l).toArray⟩, .string ⟨(decS a ++ 47 :: decS b).toArray⟩, .string ⟨#[47]⟩, .string ⟨#[]⟩] 9)
      have x6 : Blk (w5.alloc (.cells #[.string ⟨l.toArray⟩, .string ⟨(48 :: l).toArray⟩, .string ⟨(l ++ 47 :: l).toArray⟩, .string ⟨(decS a ++ 47 :: decS b).toArray⟩, .string ⟨#[47]⟩, .string ⟨#[]⟩] 9)) w5.heap.size 9 [.string ⟨l.toArray⟩, .string ⟨(48 :: l).toArray⟩, .string ⟨(l ++ 47 :: l).toArray⟩, .string ⟨(decS a ++ 47 :: decS b).toArray⟩, .string ⟨#[47]⟩, .string ⟨#[]⟩] := Blk.new w5 9 _
      have B6 := Lib.hid (below_step B5.out hal)
      obtain ⟨gT, hgT⟩ : ∃ g, w5.heap.size = g := ⟨_, rfl⟩
      obtain ⟨w6, hw6⟩ : ∃ W, w5.alloc (.cells #[.string ⟨l.toArray⟩, .string ⟨(48 :: l).toArray⟩, .string ⟨(l ++ 47 :: l).toArray⟩, .string ⟨(decS a ++ 47 :: decS b).toArray⟩, .string ⟨#[47]⟩, .string ⟨#[]⟩] 9) = W := ⟨_, rfl⟩
      rw [hw6] at x6 B6 ⊢
      rw [hgT] at x6 ⊢
      have HGT := Lib.hid x6.lt
      have HCL := Lib.hid (show ∀ j, j < 6 → ∃ lj : List UInt8, w6.cell? ⟨gT, j, none⟩ = some (.string ⟨lj.toArray⟩) ∧ lj.length ≤ 4000000 from fun j hj => by
        rcases (show j = 0 ∨ j = 1 ∨ j = 2 ∨ j = 3 ∨ j = 4 ∨ j = 5 by omega) with rfl | rfl | rfl | rfl | rfl | rfl
        · exact ⟨_, (x6.cell 0).trans rfl, by omega⟩
        · exact ⟨_, (x6.cell 1).trans rfl, by rw [List.length_cons]; omega⟩
        · exact ⟨_, (x6.cell 2).trans rfl, by rw [List.length_append, List.length_cons]; omega⟩
        · exact ⟨_, (x6.cell 3).trans rfl, by rw [List.length_append, List.length_cons]; omega⟩
        · exact ⟨[47], (x6.cell 4).trans rfl, by decide⟩
        · exact ⟨[], (x6.cell 5).trans rfl, by decide⟩)
      clear hal x6 hw6 hgT B5 hll hda hdb HSa HSb HLL
      go_wp2_with fail
      go_loopw [31] (fun s wr => ∃ j : Nat, j ≤ 6 ∧ s = .int .i64 ((j : Nat) : Int) ∧ Below w6.heap.size w6 wr) (fun s _ => 6 - (intOf s).toNat)
      case atStart => exact ⟨0, Nat.zero_le _, rfl, Below.refl _ _⟩
      case round =>
        rename World => wx
        obtain ⟨j, hj, rfl, hbel⟩ := hrel
        have BR := Lib.hid hbel
        clear hbel
        rcases Nat.lt_or_ge j 6 with hlt | hge
        · have hjI : (j : Int) < 6 := by omega
          have HJ := Lib.hid (show j + 1 ≤ 6 by omega)
          obtain ⟨lj, hcell, hlen⟩ := HCL.out j hlt
          have HCJ := Lib.hid (fun W (h : Below w6.heap.size w6 W) => (h.cell (p := ⟨gT, j, none⟩) HGT.out).trans hcell)
          obtain ⟨r', e', hR⟩ : ∃ r' e', parseR lj = (r', e') := ⟨_, _, rfl⟩
          obtain ⟨S, hS⟩ : ∃ S : ByteArray, S = ⟨lj.toArray⟩ := ⟨_, rfl⟩
          have HD1 := Lib.hid (fun W (h : Below w6.heap.size w6 W) => show Calls Tryz.prog 32 #[.string S] W (fun e w' => ∃ v, e = .returned (.tuple #[v, .int .i64 ((e' : Nat) : Int)]) ∧ Rv w' v r' ∧ Below W.heap.size W w') by rw [hS]; have h := parse_wide lj W (HM.out.below H2.out (below_step B6.out h)) (by have := H2.out; have := B6.out.size; have := h.size; omega) hlen; rw [hR] at h; exact h)
          have HD2 := Lib.hid (fun W => show Calls Tryz.prog 36 #[.string S] W (fun e w' => ∃ v, e = .returned (.tuple #[v, .int .i64 ((e' : Nat) : Int)]) ∧ Rv w' v r' ∧ Below W.heap.size W w') by rw [hS]; have h := rparse_any ⟨lj.toArray⟩ W (by show lj.toArray.size ≤ 1000000000; rw [List.size_toArray]; omega); rw [show (⟨lj.toArray⟩ : ByteArray).data.toList = lj from rfl, hR] at h; exact h)
          have HRK := Lib.hid (show Gd5 (r', e') by rw [← hR]; exact gd_parse lj)
          rw [← hS] at HCJ
          clear hcell hlen hR hlt hj hS
          have hc := HCJ.out _ BR.out
          go_wp2_with fail
          refine (HD1.out _ BR.out).mono ?_
          rintro e w9 ⟨v, rfl, hrv, hb⟩
          obtain ⟨u1, u2, rfl, hk⟩ := gd_rk (X := (r', e')) hrv HRK.out
          obtain ⟨C1, m1, j1, e1⟩ := sl_form hk.s1
          obtain ⟨C2, m2, j2, e2⟩ := sl_form hk.s2
          subst e1 e2
          have B9 := Lib.hid (below_step BR.out hb); have K9 := Lib.hid hk
          clear hb hk hrv BR HD1 hc
          go_upto_region 25 with fail
          have VA := Lib.hid (Bx.new K9.out); have B10 := Lib.hid (below_step B9.out (boxb w9 (.slice C1 m1 j1) (.slice C2 m2 j2)))
          clear B9 K9
          obtain ⟨ga, hga⟩ : ∃ g, w9.heap.size = g := ⟨_, rfl⟩
          obtain ⟨w10, hw10⟩ : ∃ W, w9.alloc (.cells #[.slice C1 m1 j1, .slice C2 m2 j2] 27) = W := ⟨_, rfl⟩
          rw [hw10] at VA B10 ⊢
          rw [hga] at VA ⊢
          clear hga hw10
          have hc := HCJ.out _ B10.out
          go_wp2_with fail
          refine (HD2.out _).mono ?_
          rintro e w11 ⟨v, rfl, hrv, hb⟩
          obtain ⟨u1, u2, rfl, hk⟩ := gd_rk (X := (r', e')) hrv HRK.out
          obtain ⟨D1, p1, q1, e1⟩ := sl_form hk.s1
          obtain ⟨D2, p2, q2, e2⟩ := sl_form hk.s2
          subst e1 e2
          have B11 := Lib.hid (below_step B10.out hb); have K11 := Lib.hid hk; have VA11 := Lib.hid (VA.out.below hb)
          clear hb hk hrv B10 VA HD2 hc
          go_upto_region 26 with fail
          have VB := Lib.hid (Bx.new K11.out); have B12 := Lib.hid (below_step B11.out (boxb w11 (.slice D1 p1 q1) (.slice D2 p2 q2))); have VA := Lib.hid (VA11.out.below (boxb w11 (.slice D1 p1 q1) (.slice D2 p2 q2)))
          clear B11 K11 VA11
          obtain ⟨gd, hgd⟩ : ∃ g, w11.heap.size = g := ⟨_, rfl⟩
          obtain ⟨w12, hw12⟩ : ∃ W, w11.alloc (.cells #[.slice D1 p1 q1, .slice D2 p2 q2] 27) = W := ⟨_, rfl⟩
          rw [hw12] at VA VB B12 ⊢
          rw [hgd] at VB ⊢
          clear hgd hw12
          obtain ⟨hc1, hc2, hf1, hf2⟩ := blk_cells2 VA.out.b
          obtain ⟨hc3, hc4, hf3, hf4⟩ := blk_cells2 VB.out.b
          have hne : (((e' : Nat) : Int) != ((e' : Nat) : Int)) = false := by simp
          have HS := Lib.hid (rsame_true VA.out.k VB.out.k)
          go_wp2_with fail
          refine HS.out.mono ?_
          rintro e w13 ⟨rfl, hb⟩
          have B13 := Lib.hid (below_step B12.out hb)
          clear hb HS hc1 hc2 hf1 hf2 hc3 hc4 hf3 hf4 VA VB B12 hne
          go_wp2_with fail
          go_roundw
          case rel =>
            have hr1 : ∃ q : Nat, q ≤ 6 ∧ (.int .i64 ((j : Int) + 1) : Value) = .int .i64 ((q : Nat) : Int) ∧ Below w6.heap.size w6 w13 := ⟨j + 1, HJ.out, by simp, B13.out⟩
            first | exact hr1 | ((repeat apply Exists.intro); exact ⟨hr1, rfl⟩)
          case measure => simp only [intOf]; omega
        · have hjn : j = 6 := by omega
          subst hjn
          have BE := Lib.hid (below_step B6.out BR.out)
          clear hj hge BR B6 HCL HGT
          go_wp2_with fail
          refine (lives_any wx (HM.out.below H2.out BE.out) (by have := H2.out; have := BE.out.size; omega)).mono ?_
          rintro e w9 ⟨rfl, hb⟩
          have BL := Lib.hid (below_step BE.out hb)
          clear hb
          go_wp2_with fail
          go_ret
          exact ⟨rfl, BL.out⟩
end Go.Proofs.YtbfhilbagojdnaaGreat
