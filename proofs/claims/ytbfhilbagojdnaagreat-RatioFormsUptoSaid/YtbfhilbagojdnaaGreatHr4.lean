/-
  Texts of the proof, joined: Wd, Dd, Leh.
  No condition: lemmas.
-/
import Derived.Deep.CutBlock
import Derived.Deep.DeepCutAuto
import Derived.Laws.ShiftsVarLaws
import Derived.Test.YtbfhilbagojdnaaGreatHr3
namespace Go.Proofs.YtbfhilbagojdnaaGreat
open Go.RowKit Wr Go.Proofs.YtbfhilbagojdnaaGreat.Nm
set_option linter.unusedVariables false
set_option maxRecDepth 100000
theorem word_num (l : List Nat) (ho : Ok l) (bit : Nat) : (at0 l (bit / 32) + at0 l (bit / 32 + 1) * 4294967296) / 2 ^ (bit % 32) + at0 l (bit / 32 + 2) % 2 ^ (bit % 32) * 2 ^ (64 - bit % 32) = num l / 2 ^ bit % 2 ^ 64 := by
  rw [word_of _ _ _ (num l / 4294967296 ^ (bit / 32 + 3)) _ (at0_lt l ho _) (at0_lt l ho _) (Nat.mod_lt _ (by omega)), ← at0_three l ho, Nat.div_div_eq_div_mul]
  congr 2
  rw [B_two, ← Nat.pow_add, Nat.div_add_mod]
theorem or_u64' (a b : Nat) (ha : a < 4294967296) (hb : b < 4294967296) : bits BinOp.or IntKind.u64 (a : Int) ((b : Int) * 4294967296) = ((a + b * 4294967296 : Nat) : Int) := by
  have h := or_add a b 32 ha
  have e : (2 : Nat) ^ 32 = 4294967296 := by decide
  rw [e] at h
  rw [show ((b : Int) * 4294967296) = ((b * 4294967296 : Nat) : Int) by simp, u64_or_nat _ _ (by omega) (by omega), h]
theorem shl_word (z s : Nat) (hs : s < 64) : IntKind.u64.wrap ((z : Int) * 2 ^ (64 - s)) = ((z % 2 ^ s * 2 ^ (64 - s) : Nat) : Int) := by
  have e : (2 : Nat) ^ 64 = 2 ^ s * 2 ^ (64 - s) := by rw [← Nat.pow_add, show s + (64 - s) = 64 by omega]
  have h : z * 2 ^ (64 - s) % 2 ^ 64 = z % 2 ^ s * 2 ^ (64 - s) := by rw [e, Nat.mul_mod_mul_right]
  rw [IntKind.wrap_u64, ← h]
  have e2 : (2 : Nat) ^ 64 = 18446744073709551616 := by decide
  rw [e2]
  have e3 : ((z * 2 ^ (64 - s) : Nat) : Int) = (z : Int) * 2 ^ (64 - s) := by simp
  rw [← e3]
  rfl
theorem or_word (x y z s : Nat) (hx : x < 4294967296) (hy : y < 4294967296) (hs : s < 32) (low : Nat) (hlow : low = x + y * 4294967296) : bits BinOp.or IntKind.u64 ((low / 2 ^ s : Nat) : Int) ((z % 2 ^ s * 2 ^ (64 - s) : Nat) : Int) = ((low / 2 ^ s + z % 2 ^ s * 2 ^ (64 - s) : Nat) : Int) := by
  have e2 : (2 : Nat) ^ 64 = 18446744073709551616 := by decide
  have hl : low < 18446744073709551616 := by omega
  have h1 : low / 2 ^ s < 2 ^ (64 - s) := by
    rw [Nat.div_lt_iff_lt_mul (Nat.two_pow_pos s), ← Nat.pow_add, show 64 - s + s = 64 by omega, e2]; exact hl
  have h2 : z % 2 ^ s * 2 ^ (64 - s) < 18446744073709551616 := by
    have : z % 2 ^ s < 2 ^ s := Nat.mod_lt _ (Nat.two_pow_pos s)
    have h3 : z % 2 ^ s * 2 ^ (64 - s) < 2 ^ s * 2 ^ (64 - s) := Nat.mul_lt_mul_of_pos_right this (Nat.two_pow_pos _)
    rw [← Nat.pow_add, show s + (64 - s) = 64 by omega, e2] at h3; exact h3
  have h4 : low / 2 ^ s < 18446744073709551616 := Nat.lt_of_le_of_lt (Nat.div_le_self _ _) hl
  rw [u64_or_nat _ _ h4 h2, or_add _ _ _ h1]
set_option maxHeartbeats 1000000 in
theorem wordAt_any (A : Option Addr) (c : Nat) (l : List Nat) (bit B : Nat) (w : World) (ho : Ok l) (hr : Rd w B A (Lc l)) (hl : l.length ≤ 1048576) (hbit : bit ≤ 1073741824) :
    Calls Tryz.prog 66 #[.slice A l.length c, .int .i64 ((bit : Nat) : Int)] w fun e w' => e = .returned (.int .u64 ((num l / 2 ^ bit % 2 ^ 64 : Nat) : Int)) ∧ ∃ q, w' = w.drewN q := by
  obtain ⟨i, hi⟩ : ∃ i, i = bit / 32 := ⟨_, rfl⟩
  obtain ⟨s, hs⟩ : ∃ s, s = bit % 32 := ⟨_, rfl⟩
  have hw := word_num l ho bit
  rw [← hi, ← hs] at hw
  have hx := at0_lt l ho i
  have hy := at0_lt l ho (i + 1)
  have hz := at0_lt l ho (i + 2)
  have HL1 := Lib.hid (fun W (h : w = W) => limb_any A c l i B W (by rw [← h]; exact hr) (by omega) (by omega))
  have HL2 := Lib.hid (fun W (h : w = W) => limb_any A c l (i + 1) B W (by rw [← h]; exact hr) (by omega) (by omega))
  have HL3 := Lib.hid (fun W (h : w.drew = W) => limb_any A c l (i + 2) B W (by rw [← h]; exact hr) (by omega) (by omega))
  rw [show ((i + 1 : Nat) : Int) = (i : Int) + 1 by omega] at HL2
  rw [show ((i + 2 : Nat) : Int) = (i : Int) + 2 by omega] at HL3
  obtain ⟨x, hx0⟩ : ∃ x, x = at0 l i := ⟨_, rfl⟩
  obtain ⟨y, hy0⟩ : ∃ x, x = at0 l (i + 1) := ⟨_, rfl⟩
  obtain ⟨z, hz0⟩ : ∃ x, x = at0 l (i + 2) := ⟨_, rfl⟩
  rw [← hx0] at HL1 hw hx
  rw [← hy0] at HL2 hw hy
  rw [← hz0] at HL3 hw hz
  obtain ⟨N, hN⟩ : ∃ N, N = l.length := ⟨_, rfl⟩
  rw [← hN] at HL1 HL2 HL3 hl ⊢
  have hor1 := or_u64' x y hx hy
  obtain ⟨low, hlow⟩ : ∃ t, t = x + y * 4294967296 := ⟨_, rfl⟩
  rw [← hlow] at hor1 hw
  have ei : ((bit : Int) / 32) = (i : Int) := by omega
  have es : ((bit : Int) % 32) = (s : Int) := by omega
  have hs32 : s < 32 := by omega
  have hi0 : i ≤ 33554432 := by omega
  obtain ⟨lq, hlq⟩ : ∃ t, t = low / 2 ^ s := ⟨_, rfl⟩
  obtain ⟨zh, hzh⟩ : ∃ t, t = z % 2 ^ s * 2 ^ (64 - s) := ⟨_, rfl⟩
  rw [← hlq, ← hzh] at hw
  obtain ⟨res, hres⟩ : ∃ t, t = num l / 2 ^ bit % 2 ^ 64 := ⟨_, rfl⟩
  rw [← hres] at hw ⊢
  have HSHR := Lib.hid (show (low : Int) / 2 ^ s = (lq : Int) by rw [hlq]; simp)
  have HSHL := Lib.hid (show IntKind.u64.wrap ((z : Int) * 2 ^ (64 - s)) = (zh : Int) by rw [hzh]; exact shl_word z s (by omega))
  have HOR := Lib.hid (show bits BinOp.or IntKind.u64 (lq : Int) (zh : Int) = (res : Int) by rw [← hw, hlq, hzh]; exact or_word x y z s hx hy hs32 low hlow)
  clear hr hi hs hx0 hy0 hz0 hN hlow hlq hzh hres hw
  go_enter Tryz.func66, Tryz.ntmps66
  go_wp2_with (go_at_call 114; first | ((with_reducible refine (HL1.out _ rfl).mono ?_); rintro e w' ⟨rfl, rfl⟩) | ((with_reducible refine (HL2.out _ rfl).mono ?_); rintro e w' ⟨rfl, rfl⟩))
  refine wp_region_any (by kernel_rfl) ?_
  change wpAny _ _ _ _ _ _ _ (World.drew w)
  refine wpAny_take (i := 0) (oi := { dst := some 23, op := Op.move (Operand.tmp 7), type := 74, pos := "limbs.go:51", after := #[], guard := none }) (v := .int .u64 ((low : Nat) : Int)) rfl (by kernel_rfl) (by kernel_rfl) (by kernel_rfl) (fun _ _ _ h => h) (Or.inl ⟨by rfl, fun W => ?y1⟩) ?_
  case y1 => go_simp
  try dsimp only [Act.put]
  try simp only [List.setIfInBounds_toArray, List.set_cons_zero, List.set_cons_succ]
  refine wpAny_take (i := 1) (oi := { dst := some 24, op := Op.move (Operand.tmp 6), type := 3, pos := "limbs.go:51", after := #[], guard := none }) (v := .int .i64 ((s : Nat) : Int)) rfl (by kernel_rfl) (by kernel_rfl) (by kernel_rfl) (fun _ _ _ h => h) (Or.inl ⟨by rfl, fun W => ?y2⟩) ?_
  case y2 => go_simp
  try dsimp only [Act.put]
  try simp only [List.setIfInBounds_toArray, List.set_cons_zero, List.set_cons_succ]
  refine wpAny_take (i := 2) (oi := { dst := some 25, op := Op.binOp BinOp.shr 74 (Operand.tmp 23) (Operand.tmp 24) 3, type := 74, pos := "limbs.go:51", after := #[{ on := 0, ground := Ground.data }, { on := 1, ground := Ground.data }], guard := none }) (v := .int .u64 ((lq : Nat) : Int)) rfl (by kernel_rfl) (by kernel_rfl) (by kernel_rfl) (fun _ _ _ h => h) (Or.inl ⟨by rfl, fun W => (by have h := HSHR.out; go_simp)⟩) ?_
  try dsimp only [Act.put]
  try simp only [List.setIfInBounds_toArray, List.set_cons_zero, List.set_cons_succ]
  refine wpAny_take (i := 3) (oi := { dst := some 26, op := Op.move (Operand.tmp 0), type := 22, pos := "limbs.go:51", after := #[], guard := none }) (v := .slice A N c) rfl (by kernel_rfl) (by kernel_rfl) (by kernel_rfl) (fun _ _ _ h => h) (Or.inl ⟨by rfl, fun W => ?y4⟩) ?_
  case y4 => go_simp
  try dsimp only [Act.put]
  try simp only [List.setIfInBounds_toArray, List.set_cons_zero, List.set_cons_succ]
  refine wpAny_take (i := 4) (oi := { dst := some 27, op := Op.move (Operand.tmp 5), type := 3, pos := "limbs.go:51", after := #[], guard := none }) (v := .int .i64 ((i : Nat) : Int)) rfl (by kernel_rfl) (by kernel_rfl) (by kernel_rfl) (fun _ _ _ h => h) (Or.inl ⟨by rfl, fun W => ?y5⟩) ?_
  case y5 => go_simp
  try dsimp only [Act.put]
  try simp only [List.setIfInBounds_toArray, List.set_cons_zero, List.set_cons_succ]
  refine wpAny_take (i := 5) (oi := { dst := some 28, op := Op.binOp BinOp.add 3 (Operand.tmp 27) (Operand.const (Value.int IntKind.i64 2)) 3, type := 3, pos := "limbs.go:51", after := #[{ on := 4, ground := Ground.data }], guard := none }) (v := .int .i64 ((i : Int) + 2)) rfl (by kernel_rfl) (by kernel_rfl) (by kernel_rfl) (fun _ _ _ h => h) (Or.inl ⟨by rfl, fun W => (by go_simp; exact IntWalk.i64_in _ (by omega))⟩) ?_
  try dsimp only [Act.put]
  try simp only [List.setIfInBounds_toArray, List.set_cons_zero, List.set_cons_succ]
  refine wpAny_take (i := 8) (oi := { dst := some 31, op := Op.move (Operand.tmp 6), type := 3, pos := "limbs.go:51", after := #[], guard := none }) (v := .int .i64 ((s : Nat) : Int)) rfl (by kernel_rfl) (by kernel_rfl) (by kernel_rfl) (fun _ _ _ h => h) (Or.inl ⟨by rfl, fun W => ?y7⟩) ?_
  case y7 => go_simp
  try dsimp only [Act.put]
  try simp only [List.setIfInBounds_toArray, List.set_cons_zero, List.set_cons_succ]
  refine wpAny_take (i := 9) (oi := { dst := some 32, op := Op.binOp BinOp.sub 3 (Operand.const (Value.int IntKind.i64 64)) (Operand.tmp 31) 3, type := 3, pos := "limbs.go:51", after := #[{ on := 8, ground := Ground.data }], guard := none }) (v := .int .i64 (64 - (s : Int))) rfl (by kernel_rfl) (by kernel_rfl) (by kernel_rfl) (fun _ _ _ h => h) (Or.inl ⟨by rfl, fun W => (by go_simp; exact IntWalk.i64_in _ (by omega))⟩) ?_
  try dsimp only [Act.put]
  try simp only [List.setIfInBounds_toArray, List.set_cons_zero, List.set_cons_succ]
  refine wpAny_ready (rs := [6]) (by kernel_rfl) (by simp) ?_
  refine AllReady.cons (o := { dst := some 29, op := Op.call { callee := Callee.value (Operand.func 114), args := #[Operand.tmp 26, Operand.tmp 28], argTypes := #[22, 3] }, type := 66, pos := "limbs.go:51", after := #[{ on := 3, ground := Ground.data }, { on := 5, ground := Ground.data }], guard := none }) rfl (fun K hK => ?_) AllReady.nil
  rw [if_pos (by rfl)]
  go_simp
  refine (HL3.out _ rfl).mono ?_; rintro e wx ⟨rfl, rfl⟩
  go_wp2_with fail
  (try (refine hK _ _ ?_; clear hK K))
  try dsimp only [Act.put]
  try simp only [List.setIfInBounds_toArray, List.set_cons_zero, List.set_cons_succ]
  refine wpAny_take (i := 7) (oi := { dst := some 30, op := Op.convert 66 74 (Operand.tmp 29), type := 74, pos := "limbs.go:51", after := #[{ on := 6, ground := Ground.data }], guard := none }) (v := .int .u64 ((z : Nat) : Int)) rfl (by kernel_rfl) (by kernel_rfl) (by kernel_rfl) (fun _ _ _ h => h) (Or.inl ⟨by rfl, fun W => (by go_simp; exact IntWalk.u64_in _ (by omega))⟩) ?_
  try dsimp only [Act.put]
  try simp only [List.setIfInBounds_toArray, List.set_cons_zero, List.set_cons_succ]
  refine wpAny_take (i := 10) (oi := { dst := some 33, op := Op.binOp BinOp.shl 74 (Operand.tmp 30) (Operand.tmp 32) 3, type := 74, pos := "limbs.go:51", after := #[{ on := 7, ground := Ground.data }, { on := 9, ground := Ground.data }], guard := none }) (v := .int .u64 ((zh : Nat) : Int)) rfl (by kernel_rfl) (by kernel_rfl) (by kernel_rfl) (fun _ _ _ h => h) (Or.inl ⟨by rfl, fun W => (by have h := HSHL.out; go_simp)⟩) ?_
  try dsimp only [Act.put]
  try simp only [List.setIfInBounds_toArray, List.set_cons_zero, List.set_cons_succ]
  refine wpAny_take (i := 11) (oi := { dst := some 34, op := Op.binOp BinOp.or 74 (Operand.tmp 25) (Operand.tmp 33) 74, type := 74, pos := "limbs.go:51", after := #[{ on := 2, ground := Ground.data }, { on := 10, ground := Ground.data }], guard := none }) (v := .int .u64 ((res : Nat) : Int)) rfl (by kernel_rfl) (by kernel_rfl) (by kernel_rfl) (fun _ _ _ h => h) (Or.inl ⟨by rfl, fun W => (by have h := HOR.out; go_simp)⟩) ?_
  try dsimp only [Act.put]
  try simp only [List.setIfInBounds_toArray, List.set_cons_zero, List.set_cons_succ]
  refine wpAny_take (i := 12) (oi := { dst := some 4, op := Op.assign (Operand.tmp 34), type := 74, pos := "limbs.go:51", after := #[{ on := 11, ground := Ground.data }, { on := 6, ground := Ground.chain }, { on := 0, ground := Ground.phase }, { on := 1, ground := Ground.phase }, { on := 2, ground := Ground.phase }, { on := 3, ground := Ground.phase }, { on := 4, ground := Ground.phase }, { on := 5, ground := Ground.phase }, { on := 6, ground := Ground.phase }, { on := 7, ground := Ground.phase }, { on := 8, ground := Ground.phase }, { on := 9, ground := Ground.phase }, { on := 10, ground := Ground.phase }, { on := 11, ground := Ground.phase }], guard := none }) (v := .int .u64 ((res : Nat) : Int)) rfl (by kernel_rfl) (by kernel_rfl) (by kernel_rfl) (fun _ _ _ h => h) (Or.inl ⟨by rfl, fun W => ?y12⟩) ?_
  case y12 => go_simp
  try dsimp only [Act.put]
  try simp only [List.setIfInBounds_toArray, List.set_cons_zero, List.set_cons_succ]
  refine wpAny_done (by kernel_rfl) ?_ _
  try dsimp only [Act.put]
  try simp only [List.setIfInBounds_toArray, List.set_cons_zero, List.set_cons_succ]
  go_wp2
  go_ret
  exact ⟨rfl, 1, rfl⟩
end Go.Proofs.YtbfhilbagojdnaaGreat
namespace Go.Proofs.YtbfhilbagojdnaaGreat
open Go.RowKit Wr Go.Proofs.YtbfhilbagojdnaaGreat.Nm
set_option linter.unusedVariables false
set_option maxRecDepth 100000
theorem lays134 : Lays.n134 Tryz.prog renB := by
  constructor
  all_goals (intros; kernel_rfl)
theorem lz64_top (y : Nat) (w : World) (h : 9223372036854775808 ≤ y) (h2 : y < 18446744073709551616) : Calls Tryz.prog 136 #[.int .u64 ((y : Nat) : Int)] w fun e w' => e = .returned (.int .i64 0) ∧ w = w' :=
  (Any.bits_LeadingZeros64 lays134 (y : Int) w (by omega) (by omega)).mono fun e w' ⟨h1, h2⟩ => ⟨by
    have e1 : (2 : Nat) ^ 63 = 9223372036854775808 := by decide
    have e2 : (2 : Nat) ^ (63 + 1) = 18446744073709551616 := by decide
    have hb : blen y = 64 := blen_eq (k := 63) (by omega) (by omega)
    rw [h1, Int.toNat_natCast, bitLen_blen y (by omega), hb]; rfl, h2.symm⟩
def DivP (w : World) (q r : Nat) (e : Ending) (w' : World) : Prop := e = .returned (.tuple #[.int .u64 ((q : Nat) : Int), .int .u64 ((r : Nat) : Int)]) ∧ ∃ n, w' = w.drewN n
set_option maxHeartbeats 1000000 in
theorem div64_small (b y : Nat) (w : World) (hb : b < 18446744073709551616) (h0 : 0 < y) (h2 : y < 18446744073709551616) :
    Calls Tryz.prog 129 #[.int .u64 0, .int .u64 ((b : Nat) : Int), .int .u64 ((y : Nat) : Int)] w (DivP w (b / y) (b % y)) := by
  obtain ⟨q, hq⟩ : ∃ q, q = b / y := ⟨_, rfl⟩
  obtain ⟨r, hr⟩ : ∃ r, r = b % y := ⟨_, rfl⟩
  have hq0 : q < 18446744073709551616 := by rw [hq]; exact Nat.lt_of_le_of_lt (Nat.div_le_self _ _) hb
  rw [← hq, ← hr]
  have HQ := Lib.hid (show ((b : Int) / (y : Int)) = (q : Int) by rw [hq]; rfl)
  have HR := Lib.hid (show ((b : Int) % (y : Int)) = (r : Int) by rw [hr]; rfl)
  have hz : ((y : Int) == 0) = false := by rw [beq_eq_false_iff_ne]; omega
  have hz2 : ¬ (y : Int) ≤ 0 := by omega
  clear hq hr
  go_enter Tryz.func129, Tryz.ntmps129
  go_wp2
  refine wp_region_any (by kernel_rfl) ?_
  change wpAny _ _ _ _ _ _ _ (World.drew w)
  refine wpAny_take (i := 0) (oi := { dst := some 28, op := Op.move (Operand.tmp 1), type := 74, pos := "bits.go:528", after := #[], guard := none }) (v := .int .u64 ((b : Nat) : Int)) rfl (by kernel_rfl) (by kernel_rfl) (by kernel_rfl) (fun _ _ _ h => h) (Or.inl ⟨by rfl, fun W => ?z0⟩) ?_
  case z0 => go_simp
  try dsimp only [Act.put]
  try simp only [List.setIfInBounds_toArray, List.set_cons_zero, List.set_cons_succ]
  refine wpAny_take (i := 1) (oi := { dst := some 29, op := Op.move (Operand.tmp 2), type := 74, pos := "bits.go:528", after := #[], guard := none }) (v := .int .u64 ((y : Nat) : Int)) rfl (by kernel_rfl) (by kernel_rfl) (by kernel_rfl) (fun _ _ _ h => h) (Or.inl ⟨by rfl, fun W => ?z1⟩) ?_
  case z1 => go_simp
  try dsimp only [Act.put]
  try simp only [List.setIfInBounds_toArray, List.set_cons_zero, List.set_cons_succ]
  refine wpAny_take (i := 2) (oi := { dst := some 30, op := Op.binOp BinOp.quo 74 (Operand.tmp 28) (Operand.tmp 29) 74, type := 74, pos := "bits.go:528", after := #[{ on := 0, ground := Ground.data }, { on := 1, ground := Ground.data }], guard := none }) (v := .int .u64 ((q : Nat) : Int)) rfl (by kernel_rfl) (by kernel_rfl) (by kernel_rfl) (fun _ _ _ h => h) (Or.inl ⟨by rfl, fun W => ?z2⟩) ?_
  case z2 => (go_simp; rw [HQ.out, IntWalk.u64_in _ (by omega)])
  try dsimp only [Act.put]
  try simp only [List.setIfInBounds_toArray, List.set_cons_zero, List.set_cons_succ]
  refine wpAny_take (i := 3) (oi := { dst := some 31, op := Op.move (Operand.tmp 1), type := 74, pos := "bits.go:528", after := #[{ on := 6, ground := Ground.gcOnly Departure.lateStores }], guard := none }) (v := .int .u64 ((b : Nat) : Int)) rfl (by kernel_rfl) (by kernel_rfl) (by kernel_rfl) (fun _ _ _ h => h) (Or.inl ⟨by rfl, fun W => ?z3⟩) ?_
  case z3 => go_simp
  try dsimp only [Act.put]
  try simp only [List.setIfInBounds_toArray, List.set_cons_zero, List.set_cons_succ]
  refine wpAny_take (i := 4) (oi := { dst := some 32, op := Op.move (Operand.tmp 2), type := 74, pos := "bits.go:528", after := #[{ on := 6, ground := Ground.gcOnly Departure.lateStores }], guard := none }) (v := .int .u64 ((y : Nat) : Int)) rfl (by kernel_rfl) (by kernel_rfl) (by kernel_rfl) (fun _ _ _ h => h) (Or.inl ⟨by rfl, fun W => ?z4⟩) ?_
  case z4 => go_simp
  try dsimp only [Act.put]
  try simp only [List.setIfInBounds_toArray, List.set_cons_zero, List.set_cons_succ]
  refine wpAny_take (i := 5) (oi := { dst := some 33, op := Op.binOp BinOp.rem 74 (Operand.tmp 31) (Operand.tmp 32) 74, type := 74, pos := "bits.go:528", after := #[{ on := 3, ground := Ground.data }, { on := 4, ground := Ground.data }, { on := 6, ground := Ground.gcOnly Departure.lateStores }], guard := none }) (v := .int .u64 ((r : Nat) : Int)) rfl (by kernel_rfl) (by kernel_rfl) (by kernel_rfl) (fun _ _ _ h => h) (Or.inl ⟨by rfl, fun W => ?z5⟩) ?_
  case z5 => (go_simp; rw [IntWalk.rem_in _ _ (by omega), HR.out])
  try dsimp only [Act.put]
  try simp only [List.setIfInBounds_toArray, List.set_cons_zero, List.set_cons_succ]
  refine wpAny_take (i := 6) (oi := { dst := some 6, op := Op.assign (Operand.tmp 30), type := 74, pos := "bits.go:528", after := #[{ on := 2, ground := Ground.data }, { on := 0, ground := Ground.phase }, { on := 1, ground := Ground.phase }, { on := 2, ground := Ground.phase }, { on := 3, ground := Ground.textOnly Departure.lateStores }, { on := 4, ground := Ground.textOnly Departure.lateStores }, { on := 5, ground := Ground.textOnly Departure.lateStores }], guard := none }) (v := .int .u64 ((q : Nat) : Int)) rfl (by kernel_rfl) (by kernel_rfl) (by kernel_rfl) (fun _ _ _ h => h) (Or.inl ⟨by rfl, fun W => ?z6⟩) ?_
  case z6 => go_simp
  try dsimp only [Act.put]
  try simp only [List.setIfInBounds_toArray, List.set_cons_zero, List.set_cons_succ]
  refine wpAny_take (i := 7) (oi := { dst := some 7, op := Op.assign (Operand.tmp 33), type := 74, pos := "bits.go:528", after := #[{ on := 5, ground := Ground.data }, { on := 6, ground := Ground.chain }, { on := 0, ground := Ground.phase }, { on := 1, ground := Ground.phase }, { on := 2, ground := Ground.phase }, { on := 3, ground := Ground.phase }, { on := 4, ground := Ground.phase }, { on := 5, ground := Ground.phase }, { on := 6, ground := Ground.phase }], guard := none }) (v := .int .u64 ((r : Nat) : Int)) rfl (by kernel_rfl) (by kernel_rfl) (by kernel_rfl) (fun _ _ _ h => h) (Or.inl ⟨by rfl, fun W => ?z7⟩) ?_
  case z7 => go_simp
  try dsimp only [Act.put]
  try simp only [List.setIfInBounds_toArray, List.set_cons_zero, List.set_cons_succ]
  refine wpAny_done (by kernel_rfl) ?_ _
  try dsimp only [Act.put]
  try simp only [List.setIfInBounds_toArray, List.set_cons_zero, List.set_cons_succ]
  go_wp2
  go_ret2
  exact ⟨rfl, 1, rfl⟩
theorem mod_half (T d y : Nat) : (T * 4294967296 + d) % y = (T % y * 4294967296 + d) % y := by
  have h := Nat.div_add_mod T y
  obtain ⟨Z, hZ⟩ : ∃ Z, Z = T / y := ⟨_, rfl⟩
  obtain ⟨Y, hY⟩ : ∃ Y, Y = T % y := ⟨_, rfl⟩
  rw [← hZ, ← hY] at h
  rw [← hY, ← h]
  have h2 : (y * Z + Y) * 4294967296 + d = (Y * 4294967296 + d) + y * (Z * 4294967296) := by rw [Nat.add_mul, Nat.mul_assoc]; omega
  rw [h2, Nat.add_mul_mod_self_left]
set_option maxHeartbeats 2000000 in
theorem div64_top (a b y : Nat) (w : World) (hb : b < 18446744073709551616) (h0 : 0 < a) (ha : a < y) (h1 : 9223372036854775808 ≤ y) (h2 : y < 18446744073709551616) :
    Calls Tryz.prog 129 #[.int .u64 ((a : Nat) : Int), .int .u64 ((b : Nat) : Int), .int .u64 ((y : Nat) : Int)] w (DivP w ((a * 18446744073709551616 + b) / y) ((a * 18446744073709551616 + b) % y)) := by
  obtain ⟨yn1, hyn1⟩ : ∃ t, t = y / 4294967296 := ⟨_, rfl⟩
  obtain ⟨yn0, hyn0⟩ : ∃ t, t = y % 4294967296 := ⟨_, rfl⟩
  obtain ⟨u1, hu1⟩ : ∃ t, t = b / 4294967296 := ⟨_, rfl⟩
  obtain ⟨u0, hu0⟩ : ∃ t, t = b % 4294967296 := ⟨_, rfl⟩
  have c1 : ((y : Int) / 4294967296) = (yn1 : Int) := by omega
  have c2 : ((b : Int) / 4294967296) = (u1 : Int) := by omega
  have c3 := and_mask y h2
  have c4 := and_mask b hb
  rw [← hyn0] at c3
  rw [← hu0] at c4
  have hz : ((y : Int) == 0) = false := by rw [beq_eq_false_iff_ne]; omega
  have hz2 : ¬ (y : Int) ≤ (a : Int) := by omega
  have hz3 : ((a : Int) == 0) = false := by rw [beq_eq_false_iff_ne]; omega
  have hz4 : ((yn1 : Int) == 0) = false := by rw [beq_eq_false_iff_ne]; omega
  have HY1 := Lib.hid hyn1; have HY0 := Lib.hid hyn0; have HU1 := Lib.hid hu1; have HU0 := Lib.hid hu0
  have hy1l : 2147483648 ≤ yn1 := by omega
  have hy1u : yn1 < 4294967296 := by omega
  have hu1u : u1 < 4294967296 := by omega
  have hu0u : u0 < 4294967296 := by omega
  have hy0u : yn0 < 4294967296 := by omega
  clear hyn1 hyn0 hu1 hu0
  have hor0 : bits BinOp.or IntKind.u64 (a : Int) ((b : Int) / 18446744073709551616) = (a : Int) := by
    have h := u64_or_nat a 0 (by omega) (by omega)
    rw [Nat.or_zero] at h
    rw [show ((b : Int) / 18446744073709551616) = ((0 : Nat) : Int) by omega]; exact h
  have HA := Lib.hid ha
  obtain ⟨Q1, hQ1⟩ : ∃ q, q = (a * 4294967296 + u1) / y := ⟨_, rfl⟩
  obtain ⟨R1, hR1⟩ : ∃ q, q = (a * 4294967296 + u1) % y := ⟨_, rfl⟩
  obtain ⟨Q0, hQ0⟩ : ∃ q, q = (R1 * 4294967296 + u0) / y := ⟨_, rfl⟩
  have hR1l : R1 < y := by rw [hR1]; exact Nat.mod_lt _ (by omega)
  have HRL := Lib.hid hR1l
  have hQ1B : Q1 < 4294967296 := by
    rw [hQ1, Nat.div_lt_iff_lt_mul (by omega)]
    have : (a + 1) * 4294967296 ≤ y * 4294967296 := Nat.mul_le_mul_right _ ha
    omega
  have hQ0B : Q0 < 4294967296 := by
    rw [hQ0, Nat.div_lt_iff_lt_mul (by omega)]
    have : (R1 + 1) * 4294967296 ≤ y * 4294967296 := Nat.mul_le_mul_right _ hR1l
    omega
  have hfull : (a * 18446744073709551616 + b) / y = Q1 * 4294967296 + Q0 := by
    have h := halves (a * 4294967296 + u1) u0 y (by omega)
    rw [← hQ1, ← hR1, ← hQ0] at h
    have hb2 : b = u1 * 4294967296 + u0 := by have := HU1.out; have := HU0.out; omega
    have e : a * 18446744073709551616 + b = (a * 4294967296 + u1) * 4294967296 + u0 := by
      rw [hb2, Nat.add_mul, Nat.mul_assoc, Nat.add_assoc]
    rw [e]; exact h.symm
  obtain ⟨P1, hP1⟩ : ∃ p, p = Q1 * y := ⟨_, rfl⟩
  have hPe : a * 4294967296 + u1 = P1 + R1 := by
    have h := Nat.div_add_mod (a * 4294967296 + u1) y
    rw [Nat.mul_comm, ← hQ1, ← hR1, ← hP1] at h
    exact h.symm
  have EP1 := Lib.hid (show (Q1 : Int) * (y : Int) = (P1 : Int) by rw [hP1]; simp)
  have HPE := Lib.hid hPe
  obtain ⟨R0, hR0⟩ : ∃ q, q = (R1 * 4294967296 + u0) % y := ⟨_, rfl⟩
  have hmod : (a * 18446744073709551616 + b) % y = R0 := by
    have hb2 : b = u1 * 4294967296 + u0 := by have := HU1.out; have := HU0.out; omega
    have e : a * 18446744073709551616 + b = (a * 4294967296 + u1) * 4294967296 + u0 := by
      rw [hb2, Nat.add_mul, Nat.mul_assoc, Nat.add_assoc]
    rw [e, hR0, hR1]
    exact mod_half _ _ _
  obtain ⟨P0, hP0⟩ : ∃ p, p = Q0 * y := ⟨_, rfl⟩
  have hP0e : R1 * 4294967296 + u0 = P0 + R0 := by
    have h := Nat.div_add_mod (R1 * 4294967296 + u0) y
    rw [Nat.mul_comm, ← hQ0, ← hR0, ← hP0] at h
    exact h.symm
  have hR0l : R0 < y := by rw [hR0]; exact Nat.mod_lt _ (by omega)
  have EP0 := Lib.hid (show (Q0 : Int) * (y : Int) = (P0 : Int) by rw [hP0]; simp)
  have HPE0 := Lib.hid hP0e
  have HR0L := Lib.hid hR0l
  clear hR0 hP0 hP0e hR0l
  rw [hfull, hmod]
  have HQ1 := Lib.hid hQ1; have HR1 := Lib.hid hR1; have HQ0 := Lib.hid hQ0
  clear hfull hmod hQ1 hR1 hQ0 hP1 hPe
  obtain ⟨q, hq⟩ : ∃ q, q = a / yn1 := ⟨_, rfl⟩
  obtain ⟨p, hp⟩ : ∃ p, p = q * yn1 := ⟨_, rfl⟩
  obtain ⟨r, hr⟩ : ∃ r, r = a - p := ⟨_, rfl⟩
  have hpl : p ≤ a := by rw [hp, hq]; exact Nat.div_mul_le_self _ _
  have gs := Gs.start a u1 y h1 h2 ha (by omega)
  rw [← HY1.out, ← hq, ← hp, ← hr] at gs
  have hrl : r < yn1 := by
    have h3 := Nat.mod_lt a (show 0 < yn1 by omega)
    have h4 := Nat.div_add_mod a yn1
    rw [Nat.mul_comm, ← hq, ← hp] at h4
    omega
  have hql : q ≤ 4294967297 := gs.hi
  have eq1 : (a : Int) / (yn1 : Int) = (q : Int) := by rw [hq]; rfl
  have eq2 : (q : Int) * (yn1 : Int) = (p : Int) := by rw [hp]; simp
  have eq3 : (a : Int) - (p : Int) = (r : Int) := by omega
  have GS := Lib.hid gs
  clear hq hp hr gs
  have haU : a < 18446744073709551616 := by omega
  clear ha hR1l
  go_enter Tryz.func129, Tryz.ntmps129
  go_upto_block 0 with (go_at_call 136; (with_reducible refine (lz64_top y _ h1 h2).mono ?_); rintro e w' ⟨rfl, rfl⟩)
  go_cut [15] (fun s15 wx => s15 = .int .u64 ((Q1 : Nat) : Int) ∧ w = wx)
  case first =>
    go_wp2
    go_loopw [15, 16] (fun sq sr wr => ∃ q r : Nat, sq = .int .u64 ((q : Nat) : Int) ∧ sr = .int .u64 ((r : Nat) : Int) ∧ Gs a u1 y q r ∧ r < 4294967296 ∧ w = wr) (fun sq _ _ => (intOf sq).toNat)
    case atStart => exact ⟨q, r, rfl, rfl, GS.out, by omega, rfl⟩
    case round =>
      obtain ⟨q, r, rfl, rfl, hgs, hrB, rfl⟩ := hrel
      have hqh := hgs.hi
      have HG := Lib.hid hgs
      clear hgs
      by_cases hbig : 4294967296 ≤ q
      · obtain ⟨hq1, hgs2⟩ := HG.out.down HA.out h1 (by omega) (Or.inl hbig)
        rw [← HY1.out] at hgs2
        have HG2 := Lib.hid hgs2
        have HSUB := Lib.hid (show ((q - 1 : Nat) : Int) = (q : Int) - 1 by omega)
        have HADD := Lib.hid (show ((r + yn1 : Nat) : Int) = (r : Int) + (yn1 : Int) by omega)
        clear hgs2
        have hgeq : 4294967296 ≤ (q : Int) := by omega
        by_cases hov : 4294967296 ≤ r + yn1
        · have hov2 : 4294967296 ≤ (r : Int) + (yn1 : Int) := by omega
          have HE := Lib.hid (HG2.out.over (by omega) (by omega) hov)
          go_wp2
          go_meet
          first | exact ⟨by rw [HQ1.out, ← HE.out, HSUB.out], rfl⟩ | exact ⟨by rw [HQ1.out, ← HE.out, HSUB.out], trivial⟩
        · have hov2 : ¬ 4294967296 ≤ (r : Int) + (yn1 : Int) := by omega
          go_wp2
          go_roundw
          case rel => exact ⟨q - 1, r + yn1, by rw [HSUB.out], by rw [HADD.out], HG2.out, by omega, by first | rfl | trivial⟩
          case measure => simp only [intOf]; omega
      · obtain ⟨pq, hpq⟩ : ∃ p, p = q * yn0 := ⟨_, rfl⟩
        have epq : (q : Int) * (yn0 : Int) = (pq : Int) := by rw [hpq]; simp
        have bpq : pq ≤ 18446744065119617025 := by
          rw [hpq]; exact Nat.mul_le_mul (show q ≤ 4294967295 by omega) (show yn0 ≤ 4294967295 by omega)
        have hng : ¬ 4294967296 ≤ (q : Int) := by omega
        have HPQ := Lib.hid hpq
        clear hpq
        by_cases hbad : 4294967296 * r + u1 < pq
        · obtain ⟨hq1, hgs2⟩ := HG.out.down HA.out h1 (by omega) (Or.inr (by rw [← HY0.out, ← HPQ.out]; exact hbad))
          rw [← HY1.out] at hgs2
          have HG2 := Lib.hid hgs2
          have HSUB := Lib.hid (show ((q - 1 : Nat) : Int) = (q : Int) - 1 by omega)
          have HADD := Lib.hid (show ((r + yn1 : Nat) : Int) = (r : Int) + (yn1 : Int) by omega)
          clear hgs2
          have hbadI : 4294967296 * (r : Int) + (u1 : Int) < (pq : Int) := by omega
          by_cases hov : 4294967296 ≤ r + yn1
          · have hov2 : 4294967296 ≤ (r : Int) + (yn1 : Int) := by omega
            have HE := Lib.hid (HG2.out.over (by omega) (by omega) hov)
            go_wp2
            go_meet
            first | exact ⟨by rw [HQ1.out, ← HE.out, HSUB.out], rfl⟩ | exact ⟨by rw [HQ1.out, ← HE.out, HSUB.out], trivial⟩
          · have hov2 : ¬ 4294967296 ≤ (r : Int) + (yn1 : Int) := by omega
            go_wp2
            go_roundw
            case rel => exact ⟨q - 1, r + yn1, by rw [HSUB.out], by rw [HADD.out], HG2.out, by omega, by first | rfl | trivial⟩
            case measure => simp only [intOf]; omega
        · have hokI : ¬ 4294967296 * (r : Int) + (u1 : Int) < (pq : Int) := by omega
          have HE := Lib.hid (HG.out.fits (by omega) (by rw [← HY0.out, ← HPQ.out]; omega))
          go_wp2
          go_meet
          first | exact ⟨by rw [HQ1.out, ← HE.out], rfl⟩ | exact ⟨by rw [HQ1.out, ← HE.out], trivial⟩
  case rest =>
    obtain ⟨rfl, rfl⟩ := hcut
    clear eq1 eq2 eq3 GS hrl hql hpl hor0
    have hR1y : R1 < y := HRL.out
    go_upto_region 21 with (fail)
    go_cut [17] (fun s17 wx => s17 = .int .u64 ((R1 : Nat) : Int) ∧ w = wx)
    case first =>
      have ep := EP1.out
      go_wp2
      go_meet
      refine ⟨?_, rfl⟩
      have := HPE.out
      congr 1
      simp only [IntKind.wrap_u64]
      omega
    case rest =>
      obtain ⟨rfl, rfl⟩ := hcut
      obtain ⟨q, hq⟩ : ∃ q, q = R1 / yn1 := ⟨_, rfl⟩
      obtain ⟨p, hp⟩ : ∃ p, p = q * yn1 := ⟨_, rfl⟩
      obtain ⟨r, hr⟩ : ∃ r, r = R1 - p := ⟨_, rfl⟩
      have hpl : p ≤ R1 := by rw [hp, hq]; exact Nat.div_mul_le_self _ _
      have gs := Gs.start R1 u0 y h1 h2 HRL.out (by omega)
      rw [← HY1.out, ← hq, ← hp, ← hr] at gs
      have hrl : r < yn1 := by
        have h3 := Nat.mod_lt R1 (show 0 < yn1 by omega)
        have h4 := Nat.div_add_mod R1 yn1
        rw [Nat.mul_comm, ← hq, ← hp] at h4
        omega
      have hql : q ≤ 4294967297 := gs.hi
      have eq1 : (R1 : Int) / (yn1 : Int) = (q : Int) := by rw [hq]; rfl
      have eq2 : (q : Int) * (yn1 : Int) = (p : Int) := by rw [hp]; simp
      have eq3 : (R1 : Int) - (p : Int) = (r : Int) := by omega
      have GS := Lib.hid gs
      clear hq hp hr gs
      go_upto_block 2 with (fail)
      go_cut [18] (fun s18 wx => s18 = .int .u64 ((Q0 : Nat) : Int) ∧ w = wx)
      case first =>
        go_wp2
        go_loopw [18, 16] (fun sq sr wr => ∃ q r : Nat, sq = .int .u64 ((q : Nat) : Int) ∧ sr = .int .u64 ((r : Nat) : Int) ∧ Gs R1 u0 y q r ∧ r < 4294967296 ∧ w = wr) (fun sq _ _ => (intOf sq).toNat)
        case atStart => exact ⟨q, r, rfl, rfl, GS.out, by omega, rfl⟩
        case round =>
          obtain ⟨q, r, rfl, rfl, hgs, hrB, rfl⟩ := hrel
          have hqh := hgs.hi
          have HG := Lib.hid hgs
          clear hgs
          by_cases hbig : 4294967296 ≤ q
          · obtain ⟨hq1, hgs2⟩ := HG.out.down HRL.out h1 (by omega) (Or.inl hbig)
            rw [← HY1.out] at hgs2
            have HG2 := Lib.hid hgs2
            have HSUB := Lib.hid (show ((q - 1 : Nat) : Int) = (q : Int) - 1 by omega)
            have HADD := Lib.hid (show ((r + yn1 : Nat) : Int) = (r : Int) + (yn1 : Int) by omega)
            clear hgs2
            have hgeq : 4294967296 ≤ (q : Int) := by omega
            by_cases hov : 4294967296 ≤ r + yn1
            · have hov2 : 4294967296 ≤ (r : Int) + (yn1 : Int) := by omega
              have HE := Lib.hid (HG2.out.over (by omega) (by omega) hov)
              go_wp2
              go_meet
              first | exact ⟨by rw [HQ0.out, ← HE.out, HSUB.out], rfl⟩ | exact ⟨by rw [HQ0.out, ← HE.out, HSUB.out], trivial⟩
            · have hov2 : ¬ 4294967296 ≤ (r : Int) + (yn1 : Int) := by omega
              go_wp2
              go_roundw
              case rel => exact ⟨q - 1, r + yn1, by rw [HSUB.out], by rw [HADD.out], HG2.out, by omega, by first | rfl | trivial⟩
              case measure => simp only [intOf]; omega
          · obtain ⟨pq, hpq⟩ : ∃ p, p = q * yn0 := ⟨_, rfl⟩
            have epq : (q : Int) * (yn0 : Int) = (pq : Int) := by rw [hpq]; simp
            have bpq : pq ≤ 18446744065119617025 := by
              rw [hpq]; exact Nat.mul_le_mul (show q ≤ 4294967295 by omega) (show yn0 ≤ 4294967295 by omega)
            have hng : ¬ 4294967296 ≤ (q : Int) := by omega
            have HPQ := Lib.hid hpq
            clear hpq
            by_cases hbad : 4294967296 * r + u0 < pq
            · obtain ⟨hq1, hgs2⟩ := HG.out.down HRL.out h1 (by omega) (Or.inr (by rw [← HY0.out, ← HPQ.out]; exact hbad))
              rw [← HY1.out] at hgs2
              have HG2 := Lib.hid hgs2
              have HSUB := Lib.hid (show ((q - 1 : Nat) : Int) = (q : Int) - 1 by omega)
              have HADD := Lib.hid (show ((r + yn1 : Nat) : Int) = (r : Int) + (yn1 : Int) by omega)
              clear hgs2
              have hbadI : 4294967296 * (r : Int) + (u0 : Int) < (pq : Int) := by omega
              by_cases hov : 4294967296 ≤ r + yn1
              · have hov2 : 4294967296 ≤ (r : Int) + (yn1 : Int) := by omega
                have HE := Lib.hid (HG2.out.over (by omega) (by omega) hov)
                go_wp2
                go_meet
                first | exact ⟨by rw [HQ0.out, ← HE.out, HSUB.out], rfl⟩ | exact ⟨by rw [HQ0.out, ← HE.out, HSUB.out], trivial⟩
              · have hov2 : ¬ 4294967296 ≤ (r : Int) + (yn1 : Int) := by omega
                go_wp2
                go_roundw
                case rel => exact ⟨q - 1, r + yn1, by rw [HSUB.out], by rw [HADD.out], HG2.out, by omega, by first | rfl | trivial⟩
                case measure => simp only [intOf]; omega
            · have hokI : ¬ 4294967296 * (r : Int) + (u0 : Int) < (pq : Int) := by omega
              have HE := Lib.hid (HG.out.fits (by omega) (by rw [← HY0.out, ← HPQ.out]; omega))
              go_wp2
              go_meet
              first | exact ⟨by rw [HQ0.out, ← HE.out], rfl⟩ | exact ⟨by rw [HQ0.out, ← HE.out], trivial⟩
      case rest =>
        obtain ⟨rfl, rfl⟩ := hcut
        clear eq1 eq2 eq3 GS hrl hql hpl
        have HF := Lib.hid (show ((Q1 * 4294967296 + Q0 : Nat) : Int) = (Q1 : Int) * 4294967296 + (Q0 : Int) by omega)
        have ep := EP0.out
        go_wp2
        go_ret2
        refine ⟨?_, 0, rfl⟩
        have hrem : IntKind.u64.wrap (IntKind.u64.wrap (IntKind.u64.wrap ((R1 : Int) * 4294967296) + (u0 : Int)) - IntKind.u64.wrap (P0 : Int)) = (R0 : Int) := by
          have h1 := HPE0.out
          have h2 := HR0L.out
          simp only [IntKind.wrap_u64]
          omega
        rw [HF.out]
        show Ending.returned (.tuple #[.int .u64 ((Q1 : Int) * 4294967296 + (Q0 : Int)), .int .u64 (IntKind.u64.wrap (IntKind.u64.wrap (IntKind.u64.wrap ((R1 : Int) * 4294967296) + (u0 : Int)) - IntKind.u64.wrap (P0 : Int)))]) = _
        rw [hrem]
theorem div64_any (a b y : Nat) (w : World) (hb : b < 18446744073709551616) (ha : a < y) (h1 : 9223372036854775808 ≤ y) (h2 : y < 18446744073709551616) :
    Calls Tryz.prog 129 #[.int .u64 ((a : Nat) : Int), .int .u64 ((b : Nat) : Int), .int .u64 ((y : Nat) : Int)] w (DivP w ((a * 18446744073709551616 + b) / y) ((a * 18446744073709551616 + b) % y)) := by
  rcases Nat.eq_zero_or_pos a with h0 | h0
  · subst h0
    rw [Nat.zero_mul, Nat.zero_add]
    exact div64_small b y w hb (by omega) h2
  · exact div64_top a b y w hb h0 ha h1 h2
end Go.Proofs.YtbfhilbagojdnaaGreat
namespace Go.Proofs.YtbfhilbagojdnaaGreat
set_option linter.unusedVariables false
namespace Nm

/-- What two factors make of two numbers, with the sign of the step. -/
def sgn (odd : Bool) (u v : Nat) (a b : Int) : Int := if odd then (u : Int) * a - (v : Int) * b else (v : Int) * b - (u : Int) * a
theorem sgn_real (odd : Bool) (u v : Nat) (X Y P al bl : Int) : sgn odd u v (X * P + al) (Y * P + bl) = sgn odd u v X Y * P + sgn odd u v al bl := by
  cases odd <;> simp only [sgn, if_true, Bool.false_eq_true, if_false] <;> grind
theorem sgn_next (odd : Bool) (u1 v1 u v q : Nat) (a b : Int) : sgn odd (u1 + q * u) (v1 + q * v) a b = sgn odd u1 v1 a b - (q : Int) * sgn (!odd) u v a b := by
  cases odd <;> simp only [sgn, if_true, Bool.false_eq_true, if_false, Bool.not_true, Bool.not_false, Int.natCast_add, Int.natCast_mul] <;> grind
theorem gcd_step (a b q : Int) : Int.gcd b (a - q * b) = Int.gcd a b := by
  apply Nat.dvd_antisymm
  · apply Int.dvd_gcd
    · have h1 : ((Int.gcd b (a - q * b) : Nat) : Int) ∣ b := Int.gcd_dvd_left ..
      have h2 : ((Int.gcd b (a - q * b) : Nat) : Int) ∣ a - q * b := Int.gcd_dvd_right ..
      have h3 := Int.dvd_add h2 (Int.dvd_mul_of_dvd_right (b := q) h1)
      rw [Int.sub_add_cancel] at h3; exact h3
    · exact Int.gcd_dvd_left ..
  · apply Int.dvd_gcd
    · exact Int.gcd_dvd_right ..
    · exact Int.dvd_sub (Int.gcd_dvd_left ..) (Int.dvd_mul_of_dvd_right (Int.gcd_dvd_right ..))

/-- What stands between two numbers at the same step. -/
theorem step_between (odd : Bool) (x y u1 v1 u v P al bl : Nat) (hal : al < P) (hbl : bl < P) (uv : u ≤ v) (u1v1 : odd = true ∨ u1 ≤ v1) (vp : 1 ≤ v) (c1 : v ≤ y) (c2 : v1 + v ≤ x - y) (hle : y ≤ x) :
    0 ≤ (y : Int) * P + sgn (!odd) u v al bl ∧ (y : Int) * P + sgn (!odd) u v al bl < (x : Int) * P + sgn odd u1 v1 al bl := by
  obtain ⟨d, rfl⟩ : ∃ d, x = y + d := ⟨x - y, by omega⟩
  have c2' : v1 + v ≤ d := by omega
  have m1 : v * P ≤ y * P := Nat.mul_le_mul_right _ c1
  have m2 : (v1 + v) * P ≤ d * P := Nat.mul_le_mul_right _ c2'
  have m3 : u * al ≤ v * P := Nat.mul_le_mul uv (Nat.le_of_lt hal)
  have m4 : v * bl ≤ v * P := Nat.mul_le_mul_left _ (Nat.le_of_lt hbl)
  have m5 : (v1 + v) * bl < (v1 + v) * P := Nat.mul_lt_mul_of_pos_left hbl (by omega)
  have m6 : (v1 + v) * al < (v1 + v) * P := Nat.mul_lt_mul_of_pos_left hal (by omega)
  have m7 : u * al ≤ v * al := Nat.mul_le_mul_right _ uv
  have e1 : (((y + d : Nat) : Int)) * P = (y : Int) * P + (d : Int) * P := by rw [Int.natCast_add, Int.add_mul]
  simp only [Nat.add_mul] at m5 m6 m2
  have k1 : (y : Int) * P = ((y * P : Nat) : Int) := by rw [Int.natCast_mul]
  have k2 : (d : Int) * P = ((d * P : Nat) : Int) := by rw [Int.natCast_mul]
  have k3 : (u : Int) * al = ((u * al : Nat) : Int) := by rw [Int.natCast_mul]
  have k4 : (v : Int) * bl = ((v * bl : Nat) : Int) := by rw [Int.natCast_mul]
  have k5 : (u1 : Int) * al = ((u1 * al : Nat) : Int) := by rw [Int.natCast_mul]
  have k6 : (v1 : Int) * bl = ((v1 * bl : Nat) : Int) := by rw [Int.natCast_mul]
  rw [e1, k1, k2]
  cases odd
  · have h1 : u1 ≤ v1 := by rcases u1v1 with h | h; cases h; exact h
    have m8 : u1 * al ≤ v1 * al := Nat.mul_le_mul_right _ h1
    simp only [sgn, Bool.not_false, if_true, Bool.false_eq_true, if_false]
    rw [k3, k4, k5, k6]
    omega
  · simp only [sgn, Bool.not_true, if_true, Bool.false_eq_true, if_false]
    rw [k3, k4, k5, k6]
    omega

/-- Right behind the first step: the numbers themselves. -/
def First (u1 v1 u v v0 : Nat) (odd : Bool) : Prop := u1 = 1 ∧ v1 = 0 ∧ u = 0 ∧ v = 1 ∧ v0 = 0 ∧ odd = true
/-- The last two numbers made of a and b. -/
def Made (a b u0 v0 u1 v1 : Nat) (odd : Bool) : Prop :=
  0 ≤ sgn odd u1 v1 a b ∧ sgn odd u1 v1 a b < sgn (!odd) u0 v0 a b ∧ sgn odd u1 v1 a b ≤ b ∧ (v0 = 0 ∨ sgn (!odd) u0 v0 a b ≤ b) ∧ Int.gcd (sgn (!odd) u0 v0 a b) (sgn odd u1 v1 a b) = Nat.gcd a b
structure Inv (X Y x y u0 v0 u1 v1 u v : Nat) (odd : Bool) : Prop where
  hx : x * v + y * v1 = X
  hX : X ≤ 18446744073709551615
  le : y ≤ x
  vp : 1 ≤ v
  vv : v1 ≤ v
  uv : u ≤ v
  u1v1 : First u1 v1 u v v0 odd ∨ u1 ≤ v1
  b1 : u0 < 4294967296
  b2 : v0 < 4294967296
  b3 : u1 < 4294967296
  b4 : v1 < 4294967296
  vb : v ≤ 18446744073709551615
  sx : (x : Int) = sgn odd u1 v1 X Y
  sy : (y : Int) = sgn (!odd) u v X Y
  re : ∀ a b P : Nat, 0 < P → a / P = X → b / P = Y → Int.gcd (sgn odd u1 v1 a b) (sgn (!odd) u v a b) = Nat.gcd a b ∧ (First u1 v1 u v v0 odd ∨ Made a b u0 v0 u1 v1 odd)
theorem Inv.start (X Y : Nat) (h : Y ≤ X) (hX : X ≤ 18446744073709551615) : Inv X Y X Y 0 0 1 0 0 1 true where
  hx := by simp
  hX := hX
  le := h
  vp := by omega
  vv := by omega
  uv := by omega
  u1v1 := .inl ⟨rfl, rfl, rfl, rfl, rfl, rfl⟩
  b1 := by omega
  b2 := by omega
  b3 := by omega
  b4 := by omega
  vb := by omega
  sx := by simp [sgn]
  sy := by simp [sgn]
  re := fun a b P _ _ _ => ⟨by simp [sgn, Int.gcd], .inl ⟨rfl, rfl, rfl, rfl, rfl, rfl⟩⟩
theorem small_factor {X x y v v1 : Nat} (hx : x * v + y * v1 = X) (hX : X ≤ 18446744073709551615) (le : y ≤ x) (c : v ≤ y) : v < 4294967296 := by
  rcases Nat.lt_or_ge v 4294967296 with h | h
  · exact h
  · have h1 : 4294967296 * 4294967296 ≤ x * v := Nat.mul_le_mul (by omega) h
    omega
theorem sgn_not_not (odd : Bool) (u v : Nat) (a b : Int) : sgn (!!odd) u v a b = sgn odd u v a b := by rw [Bool.not_not]
theorem Inv.step {X Y x y u0 v0 u1 v1 u v : Nat} {odd : Bool} (h : Inv X Y x y u0 v0 u1 v1 u v odd) (c1 : v ≤ y) (c2 : v1 + v ≤ x - y) :
    Inv X Y y (x - x / y * y) u1 v1 u v (u1 + x / y * u) (v1 + x / y * v) (!odd) := by
  have hy : 0 < y := by have := h.vp; omega
  have hq : 1 ≤ x / y := (Nat.le_div_iff_mul_le hy).2 (by have := h.le; omega)
  have hqy : x / y * y ≤ x := Nat.div_mul_le_self x y
  have hr : x - x / y * y < y := by
    have := Nat.lt_mul_div_succ x hy
    rw [Nat.mul_add, Nat.mul_comm y] at this; omega
  have hv := small_factor h.hx h.hX h.le c1
  obtain ⟨q, hqe⟩ : ∃ q, q = x / y := ⟨_, rfl⟩
  rw [← hqe] at hq hqy hr ⊢
  obtain ⟨r, hre⟩ : ∃ r, r = x - q * y := ⟨_, rfl⟩
  have hxr : x = q * y + r := by omega
  rw [← hre] at hr ⊢
  have hnew : y * (v1 + q * v) + r * v = X := by
    have := h.hx
    rw [hxr, Nat.add_mul] at this
    rw [Nat.mul_add, ← Nat.mul_assoc, Nat.mul_comm y q]; omega
  have hqv : v ≤ q * v := Nat.le_mul_of_pos_left _ hq
  have hqu : q * u ≤ q * v := Nat.mul_le_mul_left _ h.uv
  have huv' : u1 + q * u ≤ v1 + q * v := by
    rcases h.u1v1 with hf | hle
    · obtain ⟨rfl, rfl, rfl, rfl, _, _⟩ := hf
      simp only [Nat.mul_zero, Nat.mul_one]; omega
    · omega
  have hou : odd = true ∨ u1 ≤ v1 := by
    rcases h.u1v1 with hf | hle
    · exact .inl hf.2.2.2.2.2
    · exact .inr hle
  have hvb : v1 + q * v ≤ X := by
    have : 1 * (v1 + q * v) ≤ y * (v1 + q * v) := Nat.mul_le_mul_right _ hy
    omega
  have hxI : (r : Int) = (x : Int) - (q : Int) * y := by rw [hxr, Int.natCast_add, Int.natCast_mul]; omega
  exact
    { hx := hnew, hX := h.hX, le := Nat.le_of_lt hr, vp := by have := h.vp; omega, vv := by omega, uv := huv', u1v1 := .inr h.uv, b1 := h.b3, b2 := h.b4
      b3 := Nat.lt_of_le_of_lt h.uv hv, b4 := hv, vb := Nat.le_trans hvb h.hX, sx := h.sy
      sy := by rw [sgn_not_not, sgn_next, ← h.sx, ← h.sy]; exact hxI
      re := by
        intro a b P hP ha hb
        obtain ⟨hg, hm⟩ := h.re a b P hP ha hb
        have hal : a % P < P := Nat.mod_lt _ hP
        have hbl : b % P < P := Nat.mod_lt _ hP
        have ea : (a : Int) = (X : Int) * P + ((a % P : Nat) : Int) := by
          rw [← ha, ← Int.natCast_mul, ← Int.natCast_add, Nat.mul_comm, Nat.div_add_mod]
        have eb : (b : Int) = (Y : Int) * P + ((b % P : Nat) : Int) := by
          rw [← hb, ← Int.natCast_mul, ← Int.natCast_add, Nat.mul_comm, Nat.div_add_mod]
        have hbt := step_between odd x y u1 v1 u v P (a % P) (b % P) hal hbl h.uv hou h.vp c1 c2 h.le
        have r1 : sgn odd u1 v1 a b = (x : Int) * P + sgn odd u1 v1 (a % P : Nat) (b % P : Nat) := by
          rw [h.sx, ← sgn_real, ← ea, ← eb]
        have r2 : sgn (!odd) u v a b = (y : Int) * P + sgn (!odd) u v (a % P : Nat) (b % P : Nat) := by
          rw [h.sy, ← sgn_real, ← ea, ← eb]
        rw [← r1, ← r2] at hbt
        refine ⟨?_, .inr ⟨hbt.1, ?_, ?_, ?_, ?_⟩⟩
        · rw [sgn_not_not, sgn_next, gcd_step]; exact hg
        · rw [sgn_not_not]; exact hbt.2
        · rcases hm with hf | hm
          · obtain ⟨rfl, rfl, rfl, rfl, _, rfl⟩ := hf
            simp [sgn]
          · exact Int.le_trans (Int.le_of_lt hbt.2) hm.2.2.1
        · rcases hm with hf | hm
          · exact .inl hf.2.1
          · right; rw [sgn_not_not]; exact hm.2.2.1
        · rw [sgn_not_not]; exact hg }
/-- What the factors are good for. -/
def Gd (X Y u0 v0 u1 v1 : Nat) (odd : Bool) : Prop :=
  u0 < 4294967296 ∧ v0 < 4294967296 ∧ u1 < 4294967296 ∧ v1 < 4294967296 ∧ (v0 ≠ 0 → ∀ a b P : Nat, 0 < P → a / P = X → b / P = Y → Made a b u0 v0 u1 v1 odd)
theorem Inv.good {X Y x y u0 v0 u1 v1 u v : Nat} {odd : Bool} (h : Inv X Y x y u0 v0 u1 v1 u v odd) : Gd X Y u0 v0 u1 v1 odd :=
  ⟨h.b1, h.b2, h.b3, h.b4, fun hv a b P hP ha hb => by
    rcases (h.re a b P hP ha hb).2 with hf | hm
    · exact absurd hf.2.2.2.2.1 hv
    · exact hm⟩
end Nm
end Go.Proofs.YtbfhilbagojdnaaGreat
