/-
  Texts of the proof, joined: Cw, Ta, Dg, Dg2, Co.
  No condition: lemmas.
-/
import Derived.Deep.RegionHeld
import Derived.OrdersHeld
import Derived.OwnWalk
import Derived.Test.YtbfhilbagojdnaaGreatHr4
namespace Go.Proofs.YtbfhilbagojdnaaGreat
open Go.RowKit Wr Go.Proofs.YtbfhilbagojdnaaGreat.Nm
set_option linter.unusedVariables false
set_option maxRecDepth 100000

set_option maxHeartbeats 1000000 in
theorem commonWord_any (x y : Nat) (w : World) (hx : x < 18446744073709551616) (hy : y < 18446744073709551616) :
    Calls Tryz.prog 127 #[.int .u64 ((x : Nat) : Int), .int .u64 ((y : Nat) : Int)] w fun e w' => e = .returned (.int .u64 ((Nat.gcd x y : Nat) : Int)) ∧ ∃ q, w' = w.drewN q := by
  obtain ⟨G, hG⟩ : ∃ g, g = Nat.gcd x y := ⟨_, rfl⟩
  rw [← hG]
  have HG := Lib.hid hG
  clear hG
  go_enter Tryz.func127, Tryz.ntmps127
  go_wp2
  go_loopw [0, 1] (fun s0 s1 wr => ∃ a b q : Nat, s0 = .int .u64 ((a : Nat) : Int) ∧ s1 = .int .u64 ((b : Nat) : Int) ∧ a < 18446744073709551616 ∧ b < 18446744073709551616 ∧ Nat.gcd a b = G ∧ w.drewN q = wr) (fun _ s1 _ => (intOf s1).toNat)
  case atStart => exact ⟨x, y, 0, rfl, rfl, hx, hy, HG.out.symm, rfl⟩
  case round =>
    obtain ⟨a, b, n, rfl, rfl, ha, hb, hg, rfl⟩ := hrel
    have HGG := Lib.hid hg
    clear hg
    rcases Nat.eq_zero_or_pos b with h0 | h0
    · subst h0
      have e : a = G := by have := HGG.out; rwa [Nat.gcd_zero_right] at this
      subst e
      go_wp2
      go_ret
      exact ⟨rfl, n, rfl⟩
    · obtain ⟨r, hr⟩ : ∃ r, r = a % b := ⟨_, rfl⟩
      have hrl : r < b := by rw [hr]; exact Nat.mod_lt _ h0
      have hgr : Nat.gcd b r = G := by rw [hr, ← HGG.out, Nat.gcd_comm a b, Nat.gcd_rec b a, Nat.gcd_comm]
      have HR := Lib.hid (show ((a : Int) % (b : Int)) = (r : Int) by rw [hr]; rfl)
      have HGR := Lib.hid hgr
      clear hr hgr
      have hz : ((b : Int) == 0) = false := by rw [beq_eq_false_iff_ne]; omega
      have hp : (0 : Int) < (b : Int) := by omega
      go_wp2
      refine wp_region_any (by kernel_rfl) ?_
      change wpAny _ _ _ _ _ _ _ (World.drew (w.drewN n))
      refine wpAny_take (i := 0) (oi := { dst := some 7, op := Op.move (Operand.tmp 1), type := 74, pos := "common.go:25", after := #[], guard := none }) (v := .int .u64 ((b : Nat) : Int)) rfl (by kernel_rfl) (by kernel_rfl) (by kernel_rfl) (fun _ _ _ h => h) (Or.inl ⟨by rfl, fun W => ?z0⟩) ?_
      case z0 => go_simp
      try dsimp only [Act.put]
      try simp only [List.setIfInBounds_toArray, List.set_cons_zero, List.set_cons_succ]
      refine wpAny_take (i := 1) (oi := { dst := some 8, op := Op.move (Operand.tmp 0), type := 74, pos := "common.go:25", after := #[], guard := none }) (v := .int .u64 ((a : Nat) : Int)) rfl (by kernel_rfl) (by kernel_rfl) (by kernel_rfl) (fun _ _ _ h => h) (Or.inl ⟨by rfl, fun W => ?z1⟩) ?_
      case z1 => go_simp
      try dsimp only [Act.put]
      try simp only [List.setIfInBounds_toArray, List.set_cons_zero, List.set_cons_succ]
      refine wpAny_take (i := 2) (oi := { dst := some 9, op := Op.move (Operand.tmp 1), type := 74, pos := "common.go:25", after := #[], guard := none }) (v := .int .u64 ((b : Nat) : Int)) rfl (by kernel_rfl) (by kernel_rfl) (by kernel_rfl) (fun _ _ _ h => h) (Or.inl ⟨by rfl, fun W => ?z2⟩) ?_
      case z2 => go_simp
      try dsimp only [Act.put]
      try simp only [List.setIfInBounds_toArray, List.set_cons_zero, List.set_cons_succ]
      refine wpAny_take (i := 3) (oi := { dst := some 10, op := Op.binOp BinOp.rem 74 (Operand.tmp 8) (Operand.tmp 9) 74, type := 74, pos := "common.go:25", after := #[{ on := 1, ground := Ground.data }, { on := 2, ground := Ground.data }], guard := none }) (v := .int .u64 ((r : Nat) : Int)) rfl (by kernel_rfl) (by kernel_rfl) (by kernel_rfl) (fun _ _ _ h => h) (Or.inl ⟨by rfl, fun W => ?z3⟩) ?_
      case z3 => (go_simp; rw [if_neg (by omega), IntWalk.rem_in _ _ (by omega), HR.out])
      try dsimp only [Act.put]
      try simp only [List.setIfInBounds_toArray, List.set_cons_zero, List.set_cons_succ]
      refine wpAny_take (i := 4) (oi := { dst := some 0, op := Op.assign (Operand.tmp 7), type := 74, pos := "common.go:25", after := #[{ on := 0, ground := Ground.data }, { on := 0, ground := Ground.phase }, { on := 1, ground := Ground.phase }, { on := 2, ground := Ground.textOnly Departure.lateStores }, { on := 3, ground := Ground.textOnly Departure.lateStoresUnsure }], guard := none }) (v := .int .u64 ((b : Nat) : Int)) rfl (by kernel_rfl) (by kernel_rfl) (by kernel_rfl) (fun _ _ _ h => h) (Or.inl ⟨by rfl, fun W => ?z4⟩) ?_
      case z4 => go_simp
      try dsimp only [Act.put]
      try simp only [List.setIfInBounds_toArray, List.set_cons_zero]
      refine wpAny_take (i := 5) (oi := { dst := some 1, op := Op.assign (Operand.tmp 10), type := 74, pos := "common.go:25", after := #[{ on := 3, ground := Ground.data }, { on := 4, ground := Ground.chain }, { on := 0, ground := Ground.phase }, { on := 1, ground := Ground.phase }, { on := 2, ground := Ground.phase }, { on := 3, ground := Ground.phase }, { on := 4, ground := Ground.phase }], guard := none }) (v := .int .u64 ((r : Nat) : Int)) rfl (by kernel_rfl) (by kernel_rfl) (by kernel_rfl) (fun _ _ _ h => h) (Or.inl ⟨by rfl, fun W => ?z5⟩) ?_
      case z5 => go_simp
      try dsimp only [Act.put]
      try simp only [List.setIfInBounds_toArray, List.set_cons_zero, List.set_cons_succ]
      refine wpAny_done (by kernel_rfl) ?_ _
      try dsimp only [Act.put]
      try simp only [List.setIfInBounds_toArray, List.set_cons_zero, List.set_cons_succ]
      go_wp2
      go_roundw
      case rel => exact ⟨b, r, n + 1, rfl, rfl, hb, by omega, HGR.out, (World.drewN_drewN w n 1).symm⟩
      case measure => simp only [intOf]; omega

theorem own_form {w : World} {base e size n : Nat} {v : Value} {xs : List Value} (h : w.ownsRow base e size v n xs) : ∃ (A : Option Addr) (c : Nat), v = .slice A n c ∧ n ≤ c ∧ (A = none → c = 0) ∧ Rd w w.heap.size A xs := by
  rcases h.2 with ⟨rfl, rfl⟩ | ⟨g, cap, cur, rfl, hb, hg, hnc, _, _, _⟩
  · exact ⟨none, 0, rfl, Nat.le_refl _, fun _ => rfl, Rd.of_own h⟩
  · exact ⟨_, cap, rfl, hnc, (fun e => by cases e), Rd.of_own h⟩
/-- An append of limbs that can be read to an own slice. -/
theorem wpList_append_lim {w : World} {ops : Array Oper} {rest : List Oper} {o : Oper} {a : Act} {Q : Exit → Act → World → Prop} (hgd : o.guard = none) (s x : Operand)
    (ho : o.op = .call { callee := .builtin .append, args := #[s, x], argTypes := #[22, 22] })
    (base : Nat) (v : Value) (n : Nat) (xs : List Value) (hs : a.eval s = v) (hown : w.ownsRow base 66 1 v n xs)
    (A : Option Addr) (m c B : Nat) (news : List Nat) (hx : a.eval x = .slice A m c) (hnil : A = none → c = 0) (hl : news.length = m) (hr : Rd w B A (Lc news))
    (hbytes : n + m ≤ 1073741824) (hbase : base ≤ w.heap.size)
    (h : ∀ v' w', w'.ownsRow base 66 1 v' (n + m) (xs ++ Lc news) → w.grownBy w' v.ownBlock → wpList Tryz.prog ops Q rest (a.put o.dst v') w') : wpList Tryz.prog ops Q (o :: rest) a w := by
  obtain ⟨i0, hi0, hz0, hz1, hz2⟩ := info_parts infoL
  by_cases hne : Lc news = []
  · have hm : m = 0 := by rw [← hl, ← Lc_len, hne]; rfl
    clear hl; subst hm
    cases A with
    | none =>
      have hc := hnil rfl
      subst hc
      refine Lib.wpList_append_run w hgd s x 22 22 ho v _ hs hx v w (run_append_owned_none w base 22 _ 66 i0 1 Tryz.underlying22 hi0 v n xs hown) (h v w ?_ (World.grownBy.refl _ _))
      rw [hne, List.append_nil, Nat.add_zero]; exact hown
    | some ad =>
      exact wpList_append_own w hgd s x 22 ho base 66 i0 (.int .u32 0) 1 4 Tryz.underlying22 hi0 hz0 hz1 hz2 rfl (by decide) v n xs hs hown ad 0 c (Lc news) hx (by rw [hne]; rfl) (fun j u hu => by rw [hne] at hu; simp at hu) (Lc_one _) (by unfold maxLen; omega) (by omega) hbase (fun v' w' h1 h2 _ => h v' w' h1 h2)
  · obtain ⟨g, off, rfl, hg, hcell⟩ := hr hne
    exact wpList_append_own w hgd s x 22 ho base 66 i0 (.int .u32 0) 1 4 Tryz.underlying22 hi0 hz0 hz1 hz2 rfl (by decide) v n xs hs hown ⟨g, off, none⟩ m c (Lc news) hx (by rw [Lc_len, hl, Nat.mul_one]) (fun j u hu => by rw [Addr.add_lit]; exact hcell j u hu) (Lc_one _) (by unfold maxLen; omega) (by omega) hbase (fun v' w' h1 h2 _ => h v' w' h1 h2)
theorem bs0 (W : World) : (Instr.buildSlice 22 0 #[]).run Tryz.prog W = .ok (.slice (some ⟨W.heap.size, 0, none⟩) 0 0) (W.alloc (.cells #[] 66)) := by kernel_rfl
def CpP (w : World) (l : List Nat) (e : Ending) (w' : World) : Prop := ∃ v, e = .returned v ∧ Sl w' v l ∧ Below w.heap.size w w'
set_option maxHeartbeats 1000000 in
theorem clone_any (A : Option Addr) (c : Nat) (l : List Nat) (w : World) (hl : l.length ≤ 1048576) (hnil : A = none → c = 0) (hr : Rd w w.heap.size A (Lc l)) : Calls Tryz.prog 108 #[.slice A l.length c] w (CpP w l) := by
  cases A with
  | none =>
    have hl0 : l = [] := by
      rcases Nat.eq_zero_or_pos l.length with h | h
      · exact List.length_eq_zero_iff.1 h
      · obtain ⟨g, o, e, _⟩ := hr (Lc_ne h); cases e
    subst hl0
    have hc := hnil rfl
    subst hc
    have hq : ∀ W : World, (binOp .eql 22 (.slice none 0 0) (.slice none 0 0)).run Tryz.prog W = .ok (.bool true) W := fun W => by kernel_rfl
    clear hr hnil hl
    go_enter Tryz.func108, Tryz.ntmps108
    go_wp2
    go_ret
    exact ⟨.slice none 0 0, rfl, Sl.nil _, Below.refl _ _⟩
  | some ad =>
    have hq : ∀ W : World, (binOp .eql 22 (.slice (some ad) l.length c) (.slice none 0 0)).run Tryz.prog W = .ok (.bool false) W := fun W => by kernel_rfl
    have hbs := bs0 w
    have hw1 : (w.alloc (.cells #[] 66)).ownsRow w.heap.size 66 1 (.slice (some ⟨w.heap.size, 0, none⟩) 0 0) 0 [] := World.ownsRow_lit w #[] 0 (Nat.le_refl _) (by unfold maxLen; omega) rfl
    have hr1 : Rd (w.alloc (.cells #[] 66)) w.heap.size (some ad) (Lc l) := hr.below ((Below.refl _ _).alloc (Nat.le_refl _) _)
    have hb1 : Below w.heap.size w (w.alloc (.cells #[] 66)) := (Below.refl _ _).alloc (Nat.le_refl _) _
    generalize hN : l.length = N at *
    have HN := Lib.hid hN
    have HW1 := Lib.hid hw1; have HR1 := Lib.hid hr1; have HB1 := Lib.hid hb1
    clear hw1 hr1 hb1 hr hnil hN
    go_enter Tryz.func108, Tryz.ntmps108
    go_wp2_with (at_builtin; (refine wpList_append_lim rfl (.tmp 5) (.tmp 6) rfl w.heap.size _ 0 [] rfl HW1.out (some ad) N c w.heap.size l rfl (fun e => by cases e) HN.out HR1.out (by omega) (by simp) ?_))
    intro v' w' ho hg
    have hb := HB1.out.grown hg (by simp) (by intro k e; simp [Value.ownBlock] at e; omega)
    obtain ⟨A', c', e, h1, h2, h3⟩ := own_form ho
    have HX := Lib.hid (show Sl w' v' l from ⟨A', c', by rw [e, HN.out], by rw [HN.out]; exact h1, h2, h3⟩)
    have HB := Lib.hid hb
    clear ho hg hb e h1 h2 h3 A' c'
    go_wp2
    go_ret
    exact ⟨v', rfl, HX.out, HB.out⟩

def StP (w : World) (x y : Nat) (e : Ending) (w' : World) : Prop :=
  ∃ (u0 v0 u1 v1 : Nat) (odd : Bool), e = .returned (.agg #[.int .u64 ((u0 : Nat) : Int), .int .u64 ((v0 : Nat) : Int), .int .u64 ((u1 : Nat) : Int), .int .u64 ((v1 : Nat) : Int), .bool odd]) ∧ Gd x y u0 v0 u1 v1 odd ∧ Below w.heap.size w w'
/-- The cells of the steps. -/
def SC (u0 v0 u1 v1 : Nat) (odd : Bool) : List Value := [.int .u64 ((u0 : Nat) : Int), .int .u64 ((v0 : Nat) : Int), .int .u64 ((u1 : Nat) : Int), .int .u64 ((v1 : Nat) : Int), .bool odd]
theorem size97 {u0 v0 u1 v1 : Nat} {odd : Bool} : (Tryz.prog.info? 123).map (·.size) = some (SC u0 v0 u1 v1 odd).length := by kernel_rfl
theorem SC_one (u0 v0 u1 v1 : Nat) (odd : Bool) : (SC u0 v0 u1 v1 odd).toArray.all (·.oneCell') = true := by rw [List.all_toArray]; rfl
set_option maxHeartbeats 1000000 in
theorem stepsOf_any (x y : Nat) (w : World) (hyx : y ≤ x) (hx : x ≤ 18446744073709551615) :
    Calls Tryz.prog 135 #[.int .u64 ((x : Nat) : Int), .int .u64 ((y : Nat) : Int)] w (StP w x y) := by
  go_enter Tryz.func135, Tryz.ntmps135
  go_wp2
  go_loopw [0, 1, 6, 7] (fun s0 s1 s6 s7 wr => ∃ (x' y' u0 v0 u1 v1 u v : Nat) (odd : Bool), s0 = .int .u64 ((x' : Nat) : Int) ∧ s1 = .int .u64 ((y' : Nat) : Int) ∧ s6 = .int .u64 ((u : Nat) : Int) ∧ s7 = .int .u64 ((v : Nat) : Int) ∧ Inv x y x' y' u0 v0 u1 v1 u v odd ∧
      Blk wr (w.heap.size + 1) 123 (SC u0 v0 u1 v1 odd) ∧ Blk wr w.heap.size 123 (SC 0 0 0 0 false) ∧ Below w.heap.size w wr) (fun _ s1 _ _ _ => (intOf s1).toNat)
  case atStart =>
    refine ⟨x, y, 0, 0, 1, 0, 0, 1, true, rfl, rfl, rfl, rfl, Inv.start x y hyx hx, ?_, ?_, ?_⟩
    · exact Blk.newAt (w.alloc (.cells (SC 0 0 0 0 false).toArray 123)) _ 123 (SC 0 0 1 0 true) (by simp)
    · exact (Blk.new w 123 (SC 0 0 0 0 false)).alloc _
    · exact ((Below.refl _ _).alloc (Nat.le_refl _) _).alloc (by simp) _
  case round =>
    obtain ⟨x', y', u0, v0, u1, v1, u, v, odd, rfl, rfl, rfl, rfl, hinv, hblk, hres, hbel⟩ := hrel
    have hc0 : wr.cell? ⟨w.heap.size + 1, 0, none⟩ = some (.int .u64 ((u0 : Nat) : Int)) := (hblk.cell 0).trans rfl
    have hc1 : wr.cell? ⟨w.heap.size + 1, 1, none⟩ = some (.int .u64 ((v0 : Nat) : Int)) := (hblk.cell 1).trans rfl
    have hc2 : wr.cell? ⟨w.heap.size + 1, 2, none⟩ = some (.int .u64 ((u1 : Nat) : Int)) := (hblk.cell 2).trans rfl
    have hc3 : wr.cell? ⟨w.heap.size + 1, 3, none⟩ = some (.int .u64 ((v1 : Nat) : Int)) := (hblk.cell 3).trans rfl
    have hc4 : wr.cell? ⟨w.heap.size + 1, 4, none⟩ = some (.bool odd) := (hblk.cell 4).trans rfl
    have hle := hinv.le
    have hX := hinv.hX
    have hxX : x' ≤ 18446744073709551615 := by
      have h1 := hinv.hx
      have h2 := hinv.vp
      have h3 : x' * 1 ≤ x' * v := Nat.mul_le_mul_left _ h2
      omega
    have hvv := hinv.vv
    have huv := hinv.uv
    have hvp := hinv.vp
    have hvb := hinv.vb
    have b1 := hinv.b1; have b2 := hinv.b2; have b3 := hinv.b3; have b4 := hinv.b4
    by_cases g1 : v ≤ y'
    · have hv32 := small_factor hinv.hx hinv.hX hinv.le g1
      have g1d : decide (v ≤ y') = true := by simpa using g1
      have g1i : (v : Int) ≤ (y' : Int) := by omega
      by_cases g2 : v1 + v ≤ x' - y'
      · have hst := hinv.step g1 g2
        have hsv := hst.vb
        have hsu := hst.uv
        have hql : x' / y' * y' ≤ x' := Nat.div_mul_le_self x' y'
        obtain ⟨q, hq⟩ : ∃ q, q = x' / y' := ⟨_, rfl⟩
        obtain ⟨p, hp⟩ : ∃ p, p = q * y' := ⟨_, rfl⟩
        obtain ⟨qu, hqu⟩ : ∃ p, p = q * u := ⟨_, rfl⟩
        obtain ⟨qv, hqv⟩ : ∃ p, p = q * v := ⟨_, rfl⟩
        have hrl : x' - p < y' := by
          have := Nat.lt_mul_div_succ x' (show 0 < y' by omega)
          rw [← hq, Nat.mul_add, Nat.mul_comm y', ← hp] at this; omega
        rw [← hq, ← hp] at hql
        rw [← hq, ← hp, ← hqu, ← hqv] at hst
        rw [← hq, ← hqv] at hsv hsu
        rw [← hqu] at hsu
        have e1 : (x' : Int) / (y' : Int) = (q : Int) := by rw [hq]; rfl
        have e2 : (q : Int) * (y' : Int) = (p : Int) := by rw [hp]; simp
        have e3 : (q : Int) * (u : Int) = (qu : Int) := by rw [hqu]; simp
        have e4 : (q : Int) * (v : Int) = (qv : Int) := by rw [hqv]; simp
        have hqX : q ≤ 18446744073709551615 := by rw [hq]; exact Nat.le_trans (Nat.div_le_self _ _) hxX
        have g2i : (v1 : Int) + (v : Int) ≤ (x' : Int) - (y' : Int) := by omega
        have hz : ((y' : Int) == 0) = false := by rw [beq_eq_false_iff_ne]; omega
        have HST := Lib.hid hst
        have HR1 := Lib.hid (((((hblk.put 0 (.int .u64 ((u1 : Nat) : Int))).put 2 (.int .u64 ((u : Nat) : Int))).put 1 (.int .u64 ((v1 : Nat) : Int))).put 3 (.int .u64 ((v : Nat) : Int))).put 4 (.bool (!odd)))
        have HR2 := Lib.hid (((((hres.far (p := ⟨w.heap.size + 1, 0, none⟩) (by simp) (.int .u64 ((u1 : Nat) : Int))).far (p := ⟨w.heap.size + 1, 2, none⟩) (by simp) (.int .u64 ((u : Nat) : Int))).far (p := ⟨w.heap.size + 1, 1, none⟩) (by simp) (.int .u64 ((v1 : Nat) : Int))).far (p := ⟨w.heap.size + 1, 3, none⟩) (by simp) (.int .u64 ((v : Nat) : Int))).far (p := ⟨w.heap.size + 1, 4, none⟩) (by simp) (.bool (!odd)))
        have HR3 := Lib.hid (((((hbel.setCell (p := ⟨w.heap.size + 1, 0, none⟩) (by simp) (.int .u64 ((u1 : Nat) : Int))).setCell (p := ⟨w.heap.size + 1, 2, none⟩) (by simp) (.int .u64 ((u : Nat) : Int))).setCell (p := ⟨w.heap.size + 1, 1, none⟩) (by simp) (.int .u64 ((v1 : Nat) : Int))).setCell (p := ⟨w.heap.size + 1, 3, none⟩) (by simp) (.int .u64 ((v : Nat) : Int))).setCell (p := ⟨w.heap.size + 1, 4, none⟩) (by simp) (.bool (!odd)))
        have hf0 := hblk.frozen 0; have hf1 := hblk.frozen 1; have hf2 := hblk.frozen 2; have hf3 := hblk.frozen 3; have hf4 := hblk.frozen 4
        clear hinv hblk hres hbel hst hq hp hqu hqv
        go_wp2
        go_roundw
        case rel => exact ⟨y', x' - p, u1, v1, u, v, u1 + qu, v1 + qv, !odd, rfl, by go_num, by go_num, by go_num, HST.out, HR1.out, HR2.out, HR3.out⟩
        case measure => simp only [intOf]; omega
      · have g2i : ¬ (v1 : Int) + (v : Int) ≤ (x' : Int) - (y' : Int) := by omega
        have HL := Lib.hid (Blk.at hblk)
        have HZ := Lib.hid (show wr.heap[w.heap.size]? = some (.cells (SC 0 0 0 0 false).toArray 123 (0, 0)) from hres)
        have HLT := Lib.hid hres.lt
        have HG := Lib.hid hinv.good
        have HB := Lib.hid (belowRow hbel (Nat.le_refl _) (SC u0 v0 u1 v1 odd).toArray)
        have HRR := Lib.hid (hres.row (SC u0 v0 u1 v1 odd))
        clear hinv hbel hres hblk
        go_wp2_with (first | (with_reducible refine wpList_load_at rfl 123 (.tmp 5) rfl ⟨w.heap.size + 1, 0, none⟩ rfl (SC u0 v0 u1 v1 odd) _ HL.out Tryz.underlying123 rfl size97 ?_) | (with_reducible refine wpList_store_row rfl 123 (.tmp 4) (.tmp 58) rfl w.heap.size (SC u0 v0 u1 v1 odd).toArray rfl rfl 123 _ HZ.out size97 rfl (SC_one _ _ _ _ _) ?_))
        refine bodyPost_ret (v := .agg (SC u0 v0 u1 v1 odd).toArray) ?_ rfl ⟨u0, v0, u1, v1, odd, rfl, HG.out, HB.out⟩
        have hr := run_loadVar_row (P := Tryz.prog) _ w.heap.size 123 123 (SC u0 v0 u1 v1 odd).toArray (0, 0) _ HRR.out Tryz.underlying123 rfl size97
        simp [results, Tryz.results135, asAddr, hr]
    · have g1d : decide (v ≤ y') = false := by simpa using g1
      have g1i : ¬ (v : Int) ≤ (y' : Int) := by omega
      have HL := Lib.hid (Blk.at hblk)
      have HZ := Lib.hid (show wr.heap[w.heap.size]? = some (.cells (SC 0 0 0 0 false).toArray 123 (0, 0)) from hres)
      have HLT := Lib.hid hres.lt
      have HG := Lib.hid hinv.good
      have HB := Lib.hid (belowRow hbel (Nat.le_refl _) (SC u0 v0 u1 v1 odd).toArray)
      have HRR := Lib.hid (hres.row (SC u0 v0 u1 v1 odd))
      clear hinv hbel hres hblk
      go_wp2_with (first | (with_reducible refine wpList_load_at rfl 123 (.tmp 5) rfl ⟨w.heap.size + 1, 0, none⟩ rfl (SC u0 v0 u1 v1 odd) _ HL.out Tryz.underlying123 rfl size97 ?_) | (with_reducible refine wpList_store_row rfl 123 (.tmp 4) (.tmp 58) rfl w.heap.size (SC u0 v0 u1 v1 odd).toArray rfl rfl 123 _ HZ.out size97 rfl (SC_one _ _ _ _ _) ?_))
      refine bodyPost_ret (v := .agg (SC u0 v0 u1 v1 odd).toArray) ?_ rfl ⟨u0, v0, u1, v1, odd, rfl, HG.out, HB.out⟩
      have hr := run_loadVar_row (P := Tryz.prog) _ w.heap.size 123 123 (SC u0 v0 u1 v1 odd).toArray (0, 0) _ HRR.out Tryz.underlying123 rfl size97
      simp [results, Tryz.results135, asAddr, hr]
end Go.Proofs.YtbfhilbagojdnaaGreat
namespace Go.Proofs.YtbfhilbagojdnaaGreat
open Go.RowKit Wr Go.Proofs.YtbfhilbagojdnaaGreat.Nm
set_option linter.unusedVariables false
set_option maxRecDepth 100000

theorem Row.post_cell {w : World} {g n : Nat} {pre post : List Value} {l : List Nat} {x : Int} (h : Row w g pre l (.int .u32 x :: post)) (hl : l.length = n := by first | exact digs_len _ _ | assumption) : w.cell? ⟨g, pre.length + n, none⟩ = some (.int .u32 x) := by
  rw [Blk.cell h, List.getElem?_append_right (by omega), Nat.add_sub_cancel_left, List.getElem?_append_right (by rw [Lc_len]; omega), Lc_len, hl, Nat.sub_self]; rfl
theorem Row.post_put {w : World} {g n : Nat} {pre post : List Value} {l : List Nat} {x : Int} (h : Row w g pre l (.int .u32 x :: post)) (v : Nat) (hl : l.length = n := by first | exact digs_len _ _ | assumption) : Row (w.setCell ⟨g, pre.length + n, none⟩ (.int .u32 ((v : Nat) : Int))) g pre l (.int .u32 ((v : Nat) : Int) :: post) := by
  have := Blk.put h (pre.length + n) (.int .u32 ((v : Nat) : Int))
  unfold Row
  rw [List.set_append_right _ _ (by omega), Nat.add_sub_cancel_left, List.set_append_right _ _ (by rw [Lc_len]; omega), Lc_len, hl, Nat.sub_self, List.set_cons_zero] at this
  exact this
/-- A row, its last limb apart. -/
theorem Row.last {w : World} {g n : Nat} {pre post : List Value} {R : List Nat} (h : Row w g pre R post) (hn : R.length = n + 1) : Row w g pre (R.take n) (.int .u32 ((R[n]'(by omega) : Nat) : Int) :: post) := by
  have e : Lc R ++ post = Lc (R.take n) ++ (.int .u32 ((R[n]'(by omega) : Nat) : Int) :: post) := by
    have h1 : R = R.take n ++ [R[n]'(by omega)] := by rw [← List.take_succ_eq_append_getElem (by omega), List.take_of_length_le (by omega)]
    conv => lhs; rw [h1]
    rw [Lc_append, List.append_assoc]; rfl
  unfold Row at h ⊢
  rw [e] at h; exact h
theorem grown_from {w w' : World} {r : Option Nat} (h : w.drew.grownBy w' r) : w.grownBy w' r := ⟨h.os, h.tape, h.output, h.size, h.block⟩
theorem grown_drewN {w w' : World} {r : Option Nat} (h : w.grownBy w' r) (n : Nat) : w.grownBy (w'.drewN n) r := ⟨h.os, h.tape, h.output, h.size, h.block⟩
def AllP (w : World) (g : Nat) (pre post : List Value) (n W D : Nat) (e : Ending) (w' : World) : Prop :=
  e = .returned (.int .u32 ((W / D : Nat) : Int)) ∧ Row w' g pre (digs (n + 1) (W % D)) post ∧ w.grownBy w' (some g)
theorem take_facts (R dl : List Nat) (n : Nat) (hR : Ok R) (hd : Ok dl) (hRl : R.length = n + 1) (hdl : dl.length = n) (hn : 2 ≤ n) (htop : 4294967296 ^ n ≤ 2 * num dl) (hW : num R < num dl * 4294967296) :
    0 < num dl ∧ num dl < 4294967296 ^ n ∧ num R = num (R.take n) + 4294967296 ^ n * (R[n]'(by omega)) ∧ num (R.take n) < 4294967296 ^ n ∧
    (R[n]'(by omega)) < num dl / 2 ^ (32 * (n - 2)) % 2 ^ 64 ∧ 9223372036854775808 ≤ num dl / 2 ^ (32 * (n - 2)) % 2 ^ 64 ∧
    (R[n]'(by omega)) * 18446744073709551616 + num R / 2 ^ (32 * (n - 2)) % 2 ^ 64 = num R / 4294967296 ^ (n - 2) ∧ num dl / 2 ^ (32 * (n - 2)) % 2 ^ 64 = num dl / 4294967296 ^ (n - 2) := by
  obtain ⟨m, rfl⟩ : ∃ m, n = m + 2 := ⟨n - 2, by omega⟩
  have e64 : (2 : Nat) ^ 64 = 18446744073709551616 := by decide
  rw [Nat.add_sub_cancel, ← B_two, e64]
  have p := pow_pos m
  have hB : 4294967296 ^ (m + 2) = 4294967296 ^ m * 18446744073709551616 := by rw [Nat.pow_add]
  have hdlt := num_lt dl hd
  rw [hdl, hB] at hdlt
  have hsp := num_take_succ R (m + 2) (by omega)
  rw [List.take_of_length_le (by omega)] at hsp
  have htk := num_lt _ (hR.take (m + 2))
  rw [List.length_take, Nat.min_eq_left (by omega)] at htk
  have hdv : num dl / 4294967296 ^ m < 18446744073709551616 := by rw [Nat.div_lt_iff_lt_mul p, Nat.mul_comm]; exact hdlt
  have hdm : num dl / 4294967296 ^ m % 18446744073709551616 = num dl / 4294967296 ^ m := Nat.mod_eq_of_lt hdv
  have htop2 : 9223372036854775808 ≤ num dl / 4294967296 ^ m := by
    rw [Nat.le_div_iff_mul_le p]
    rw [hB] at htop
    omega
  have hx : R[m + 2]'(by omega) < num dl / 4294967296 ^ m := by
    have h1 : 4294967296 ^ (m + 2) * (R[m + 2]'(by omega)) < num dl * 4294967296 := by omega
    rw [hB] at h1
    rw [Nat.lt_div_iff_mul_lt p]
    have h2 : 4294967296 ^ m * 18446744073709551616 * (R[m + 2]'(by omega)) = (R[m + 2]'(by omega)) * 4294967296 ^ m * 18446744073709551616 := by
      rw [Nat.mul_right_comm, Nat.mul_comm (4294967296 ^ m) _]
    rw [h2] at h1
    omega
  refine ⟨by have := pow_pos (m + 2); omega, by rw [hB]; exact hdlt, hsp, htk, by rw [hdm]; exact hx, by rw [hdm]; exact htop2, ?_, hdm⟩
  rw [hsp, hB, Nat.mul_assoc, Nat.add_mul_div_left _ _ p]
  rw [hB] at htk
  have h3 : num (R.take (m + 2)) / 4294967296 ^ m < 18446744073709551616 := by rw [Nat.div_lt_iff_lt_mul p, Nat.mul_comm]; exact htk
  generalize num (R.take (m + 2)) / 4294967296 ^ m = h at h3 ⊢
  omega
set_option maxHeartbeats 600000 in
theorem takeAll_any (g : Nat) (pre post : List Value) (R dl : List Nat) (n c2 : Nat) (A2 : Option Addr) (w : World) (hR : Ok R) (hd : Ok dl) (hRl : R.length = n + 1) (hdl : dl.length = n) (hn : 2 ≤ n) (hn2 : n ≤ 1000000) (hpl : pre.length ≤ 1000000)
    (htop : 4294967296 ^ n ≤ 2 * num dl) (hW : num R < num dl * 4294967296) (hb : Row w g pre R post) (hr : Rd w g A2 (Lc dl)) :
    Calls Tryz.prog 111 #[.slice (some ⟨g, pre.length, none⟩) (n + 1) (n + 1), .slice A2 n c2] w (AllP w g pre post n (num R) (num dl)) := by
  obtain ⟨f0, f1, f2, f3, f4, f5, f6, f7⟩ := take_facts R dl n hR hd hRl hdl hn htop hW
  have hhi := hR.get n (by omega)
  have hrow := hb.last hRl
  have hRt := hR.take n
  obtain ⟨p, hp⟩ : ∃ p, p = pre.length := ⟨_, rfl⟩
  obtain ⟨sec, hsec⟩ : ∃ s, s = 32 * (n - 2) := ⟨_, rfl⟩
  have hrr : Rd w (g + 1) (some ⟨g, p, none⟩) (Lc R) := by
    have h0 := hb
    unfold Row at h0
    rw [hp]
    exact Rd.of_blk h0 _ _ (by intro j u hj; rw [List.getElem?_append_right (by omega), Nat.add_sub_cancel_left, List.getElem?_append_left (by have := (List.getElem?_eq_some_iff.1 hj).1; exact this)]; exact hj)
  rw [← hsec] at f4 f5 f6 f7
  obtain ⟨hi, hhi2⟩ : ∃ x, x = R[n]'(by omega) := ⟨_, rfl⟩
  rw [← hhi2] at f2 f4 f6 hhi hrow
  obtain ⟨dh, hdh⟩ : ∃ x, x = num dl / 2 ^ sec % 2 ^ 64 := ⟨_, rfl⟩
  obtain ⟨lo, hlo⟩ : ∃ x, x = num R / 2 ^ sec % 2 ^ 64 := ⟨_, rfl⟩
  rw [← hdh] at f4 f5 f7
  rw [← hlo] at f6
  have e64 : (2 : Nat) ^ 64 = 18446744073709551616 := by decide
  have hdhl : dh < 18446744073709551616 := by rw [hdh, e64]; exact Nat.mod_lt _ (by omega)
  have hlol : lo < 18446744073709551616 := by rw [hlo, e64]; exact Nat.mod_lt _ (by omega)
  have hWr := fun (W : World) (h : ∃ q, W = w.drewN q) => wordAt_any (some ⟨g, p, none⟩) (n + 1) R sec (g + 1) W hR (by obtain ⟨q, rfl⟩ := h; exact hrr) (by omega) (by omega)
  have hWd := fun (W : World) (h : ∃ q, W = w.drewN q) => wordAt_any A2 c2 dl sec g W hd (by obtain ⟨q, rfl⟩ := h; exact hr) (by omega) (by omega)
  rw [hRl, ← hlo] at hWr
  rw [hdl, ← hdh] at hWd
  obtain ⟨gs, hgs⟩ : ∃ x, x = (hi * 18446744073709551616 + lo) / dh := ⟨_, rfl⟩
  obtain ⟨gr, hgr⟩ : ∃ x, x = (hi * 18446744073709551616 + lo) % dh := ⟨_, rfl⟩
  have hDv := fun (W : World) (h : ∃ q, W = w.drewN q) => div64_any hi lo dh W hlol f4 f5 hdhl
  rw [← hgs, ← hgr] at hDv
  have next (W w' : World) (h : ∃ q, W = w.drewN q) (h2 : ∃ q, w' = W.drewN q) : ∃ q, w' = w.drewN q := by
    obtain ⟨q, rfl⟩ := h
    obtain ⟨q2, rfl⟩ := h2
    exact ⟨q + q2, World.drewN_drewN _ _ _⟩
  have HWr := Lib.hid (fun (W : World) (h : ∃ q, W = w.drewN q) => (hWr W h).mono fun e w' hh => And.intro hh.1 (next W w' h hh.2))
  have HWd := Lib.hid (fun (W : World) (h : ∃ q, W = w.drewN q) => (hWd W h).mono fun e w' hh => And.intro hh.1 (next W w' h hh.2))
  have HDv := Lib.hid (fun (W : World) (h : ∃ q, W = w.drewN q) => (hDv W h).mono fun e w' hh => And.intro hh.1 (next W w' h hh.2))
  -- what is guessed
  obtain ⟨c, hc⟩ : ∃ x, x = min gs 4294967295 := ⟨_, rfl⟩
  have hcI : min (gs : Int) 4294967295 = (c : Int) := by omega
  have hcB : c ≤ 4294967295 := by omega
  have hgsl : gs < 18446744073709551616 := by
    rw [hgs, Nat.div_lt_iff_lt_mul (by omega)]
    have : (hi + 1) * 18446744073709551616 ≤ dh * 18446744073709551616 := Nat.mul_le_mul_right _ f4
    rw [Nat.mul_comm 18446744073709551616]; omega
  have gq := f6
  rw [f6, f7] at hgs
  have qlo := guess_lo (num R) (num dl) (4294967296 ^ (n - 2)) _ _ (pow_pos _) rfl rfl (by rw [← f7]; omega)
  rw [← hgs] at qlo
  have hqB : num R / num dl < 4294967296 := by rw [Nat.div_lt_iff_lt_mul f0, Nat.mul_comm]; exact hW
  have qc : num R / num dl ≤ c := by rw [hc]; omega
  have qhi := guess_hi (num R) (num dl) (4294967296 ^ (n - 2)) _ _ c (pow_pos _) rfl rfl (by rw [← f7]; omega) (by rw [← hgs, hc]; exact Nat.min_le_left _ _) hcB
  have HCell := Lib.hid (Row.post_cell (n := n) hrow (by rw [List.length_take]; omega))
  rw [← hp] at HCell
  have hsecI : 32 * ((n : Int) - 2) = (sec : Int) := by omega
  have hsl := sl0 g p (n + 1) (n + 1) n (by omega)
  have HRow := Lib.hid hrow; have HRt := Lib.hid hRt; have HD := Lib.hid hd; have HDL := Lib.hid hdl
  have HRd := Lib.hid hr; have HP := Lib.hid hp
  have HF := Lib.hid (And.intro f0 (And.intro f1 (And.intro f2 f3)))
  have HQ := Lib.hid (And.intro qc qhi)
  have HTL := Lib.hid (show (R.take n).length = n by rw [List.length_take]; omega)
  have hp1 : p ≤ 1000000 := by omega
  clear hhi2 hp
  clear hgs hgr hdh hlo hsec gq qlo hc hrow hRt hR hd hb hr hrr hWr hWd hDv next f2 f6 f7 qc qhi f0 f1 f3 htop hW e64 hRl hdl hpl
  obtain ⟨rl, hrlx⟩ : ∃ x, x = R.take n := ⟨_, rfl⟩
  obtain ⟨nR, hnR⟩ : ∃ x, x = num R := ⟨_, rfl⟩
  rw [← hrlx] at HRow HRt HF HTL
  rw [← hnR] at HF HQ hqB ⊢
  clear hrlx hnR
  rw [← HP.out]
  go_enter Tryz.func111, Tryz.ntmps111
  go_upto_region 3 with (fail)
  go_cut [7] (fun s7 wx => s7 = .int .u64 ((gs : Nat) : Int) ∧ ∃ q, wx = w.drewN q)
  case first =>
    refine wp_region_held (S := fun W => ∃ q, W = w.drewN q) (by kernel_rfl) ?_
    change wpAnyH _ _ _ _ _ _ _ _ (World.drew w)
    have hs0 : ∃ q, World.drew w = w.drewN q := ⟨1, rfl⟩
    generalize World.drew w = Wd at hs0 ⊢
    refine wpAnyH_take (i := 0) (oi := { dst := some 17, op := Op.move (Operand.tmp 0), type := 22, pos := "limbs.go:203", after := #[], guard := none }) (v := .slice (some ⟨g, p, none⟩) (n + 1) (n + 1)) rfl (by kernel_rfl) (by kernel_rfl) (by kernel_rfl) (fun _ _ _ h => h) (Or.inl ⟨by rfl, fun W hW => ?y1⟩) hs0 ?_
    case y1 => go_simp
    try dsimp only [Act.put]
    try simp only [List.setIfInBounds_toArray, List.set_cons_zero, List.set_cons_succ]
    refine wpAnyH_take (i := 1) (oi := { dst := some 18, op := Op.move (Operand.tmp 5), type := 3, pos := "limbs.go:203", after := #[], guard := none }) (v := .int .i64 ((n : Nat) : Int)) rfl (by kernel_rfl) (by kernel_rfl) (by kernel_rfl) (fun _ _ _ h => h) (Or.inl ⟨by rfl, fun W hW => ?y2⟩) hs0 ?_
    case y2 => go_simp
    try dsimp only [Act.put]
    try simp only [List.setIfInBounds_toArray, List.set_cons_zero, List.set_cons_succ]
    refine wpAnyH_take (i := 2) (oi := { dst := some 19, op := Op.indexAddr 22 (Operand.tmp 17) (Operand.tmp 18), type := 0, pos := "limbs.go:203", after := #[{ on := 0, ground := Ground.data }, { on := 1, ground := Ground.data }], guard := none }) (v := .pointer (some ⟨g, p + n, none⟩)) rfl (by kernel_rfl) (by kernel_rfl) (by kernel_rfl) (fun _ _ _ h => h) (Or.inl ⟨by rfl, fun W hW => by have hjl : (n : Int) < (n : Int) + 1 := (by omega); go_simp⟩) hs0 ?_
    try dsimp only [Act.put]
    try simp only [List.setIfInBounds_toArray, List.set_cons_zero, List.set_cons_succ]
    refine wpAnyH_take (i := 3) (oi := { dst := some 20, op := Op.load 66 (Operand.tmp 19), type := 66, pos := "limbs.go:203", after := #[{ on := 2, ground := Ground.data }], guard := none }) (v := .int .u32 ((hi : Nat) : Int)) rfl (by kernel_rfl) (by kernel_rfl) (by kernel_rfl) (fun _ _ _ h => h) (Or.inl ⟨by rfl, fun W hW => by obtain ⟨q, rfl⟩ := hW; have hcl : (w.drewN q).cell? ⟨g, p + n, none⟩ = some (.int .u32 ((hi : Nat) : Int)) := HCell.out; go_simp⟩) hs0 ?_
    try dsimp only [Act.put]
    try simp only [List.setIfInBounds_toArray, List.set_cons_zero, List.set_cons_succ]
    refine wpAnyH_take (i := 4) (oi := { dst := some 21, op := Op.convert 66 74 (Operand.tmp 20), type := 74, pos := "limbs.go:203", after := #[{ on := 3, ground := Ground.data }], guard := none }) (v := .int .u64 ((hi : Nat) : Int)) rfl (by kernel_rfl) (by kernel_rfl) (by kernel_rfl) (fun _ _ _ h => h) (Or.inl ⟨by rfl, fun W hW => by go_simp; exact IntWalk.u64_in _ (by omega)⟩) hs0 ?_
    try dsimp only [Act.put]
    try simp only [List.setIfInBounds_toArray, List.set_cons_zero, List.set_cons_succ]
    refine wpAnyH_take (i := 5) (oi := { dst := some 22, op := Op.move (Operand.tmp 0), type := 22, pos := "limbs.go:203", after := #[], guard := none }) (v := .slice (some ⟨g, p, none⟩) (n + 1) (n + 1)) rfl (by kernel_rfl) (by kernel_rfl) (by kernel_rfl) (fun _ _ _ h => h) (Or.inl ⟨by rfl, fun W hW => ?y6⟩) hs0 ?_
    case y6 => go_simp
    try dsimp only [Act.put]
    try simp only [List.setIfInBounds_toArray, List.set_cons_zero, List.set_cons_succ]
    refine wpAnyH_take (i := 6) (oi := { dst := some 23, op := Op.move (Operand.tmp 6), type := 3, pos := "limbs.go:203", after := #[], guard := none }) (v := .int .i64 ((sec : Nat) : Int)) rfl (by kernel_rfl) (by kernel_rfl) (by kernel_rfl) (fun _ _ _ h => h) (Or.inl ⟨by rfl, fun W hW => ?y7⟩) hs0 ?_
    case y7 => go_simp
    try dsimp only [Act.put]
    try simp only [List.setIfInBounds_toArray, List.set_cons_zero, List.set_cons_succ]
    refine wpAnyH_take (i := 8) (oi := { dst := some 25, op := Op.move (Operand.tmp 1), type := 22, pos := "limbs.go:203", after := #[], guard := none }) (v := .slice A2 n c2) rfl (by kernel_rfl) (by kernel_rfl) (by kernel_rfl) (fun _ _ _ h => h) (Or.inl ⟨by rfl, fun W hW => ?y8⟩) hs0 ?_
    case y8 => go_simp
    try dsimp only [Act.put]
    try simp only [List.setIfInBounds_toArray, List.set_cons_zero, List.set_cons_succ]
    refine wpAnyH_take (i := 9) (oi := { dst := some 26, op := Op.move (Operand.tmp 6), type := 3, pos := "limbs.go:203", after := #[], guard := none }) (v := .int .i64 ((sec : Nat) : Int)) rfl (by kernel_rfl) (by kernel_rfl) (by kernel_rfl) (fun _ _ _ h => h) (Or.inl ⟨by rfl, fun W hW => ?y9⟩) hs0 ?_
    case y9 => go_simp
    try dsimp only [Act.put]
    try simp only [List.setIfInBounds_toArray, List.set_cons_zero, List.set_cons_succ]
    refine wpAnyH_ready (rs := [7]) (by kernel_rfl) (by simp) ?_
    refine AllReadyH.cons (o := { dst := some 24, op := Op.call { callee := Callee.value (Operand.func 66), args := #[Operand.tmp 22, Operand.tmp 23], argTypes := #[22, 3] }, type := 74, pos := "limbs.go:203", after := #[{ on := 5, ground := Ground.data }, { on := 6, ground := Ground.data }], guard := none }) rfl (fun K hK => ?_) AllReadyH.nil
    rw [if_pos (by rfl)]
    go_simp
    refine (HWr.out _ hs0).mono ?_; rintro e w10 ⟨rfl, hs11⟩
    go_wp2_with fail
    refine hK.out _ _ hs11 (fun _ => ?_)
    clear hK K
    try dsimp only [Act.put]
    try simp only [List.setIfInBounds_toArray, List.set_cons_zero, List.set_cons_succ]
    refine wpAnyH_ready (rs := [10]) (by kernel_rfl) (by simp) ?_
    refine AllReadyH.cons (o := { dst := some 27, op := Op.call { callee := Callee.value (Operand.func 66), args := #[Operand.tmp 25, Operand.tmp 26], argTypes := #[22, 3] }, type := 74, pos := "limbs.go:203", after := #[{ on := 8, ground := Ground.data }, { on := 9, ground := Ground.data }, { on := 7, ground := Ground.chain }], guard := none }) rfl (fun K hK => ?_) AllReadyH.nil
    rw [if_pos (by rfl)]
    go_simp
    refine (HWd.out _ hs11).mono ?_; rintro e w12 ⟨rfl, hs13⟩
    go_wp2_with fail
    refine hK.out _ _ hs13 (fun _ => ?_)
    clear hK K
    try dsimp only [Act.put]
    try simp only [List.setIfInBounds_toArray, List.set_cons_zero, List.set_cons_succ]
    refine wpAnyH_ready (rs := [11]) (by kernel_rfl) (by simp) ?_
    refine AllReadyH.cons (o := { dst := some 28, op := Op.call { callee := Callee.value (Operand.func 129), args := #[Operand.tmp 21, Operand.tmp 24, Operand.tmp 27], argTypes := #[74, 74, 74] }, type := 117, pos := "limbs.go:203", after := #[{ on := 4, ground := Ground.data }, { on := 7, ground := Ground.data }, { on := 10, ground := Ground.data }, { on := 10, ground := Ground.chain }], guard := none }) rfl (fun K hK => ?_) AllReadyH.nil
    rw [if_pos (by rfl)]
    go_simp
    refine (HDv.out _ hs13).mono ?_; rintro e w14 ⟨rfl, hs15⟩
    go_wp2_with fail
    refine hK.out _ _ hs15 (fun _ => ?_)
    clear hK K
    try dsimp only [Act.put]
    try simp only [List.setIfInBounds_toArray, List.set_cons_zero, List.set_cons_succ]
    refine wpAnyH_take (i := 12) (oi := { dst := some 16, op := Op.move (Operand.tmp 28), type := 117, pos := "limbs.go:203", after := #[{ on := 11, ground := Ground.data }], guard := none }) (v := .tuple #[.int .u64 ((gs : Nat) : Int), .int .u64 ((gr : Nat) : Int)]) rfl (by kernel_rfl) (by kernel_rfl) (by kernel_rfl) (fun _ _ _ h => h) (Or.inl ⟨by rfl, fun W hW => ?y16⟩) hs15 ?_
    case y16 => go_simp
    try dsimp only [Act.put]
    try simp only [List.setIfInBounds_toArray, List.set_cons_zero, List.set_cons_succ]
    refine wpAnyH_take (i := 13) (oi := { dst := some 29, op := Op.extract (Operand.tmp 16) 0, type := 74, pos := "limbs.go:203", after := #[{ on := 12, ground := Ground.data }], guard := none }) (v := .int .u64 ((gs : Nat) : Int)) rfl (by kernel_rfl) (by kernel_rfl) (by kernel_rfl) (fun _ _ _ h => h) (Or.inl ⟨by rfl, fun W hW => ?y17⟩) hs15 ?_
    case y17 => go_simp
    try dsimp only [Act.put]
    try simp only [List.setIfInBounds_toArray, List.set_cons_zero, List.set_cons_succ]
    refine wpAnyH_take (i := 14) (oi := { dst := some 30, op := Op.extract (Operand.tmp 16) 1, type := 74, pos := "limbs.go:203", after := #[{ on := 12, ground := Ground.data }, { on := 15, ground := Ground.gcOnly Departure.lateStores }], guard := none }) (v := .int .u64 ((gr : Nat) : Int)) rfl (by kernel_rfl) (by kernel_rfl) (by kernel_rfl) (fun _ _ _ h => h) (Or.inl ⟨by rfl, fun W hW => ?y18⟩) hs15 ?_
    case y18 => go_simp
    try dsimp only [Act.put]
    try simp only [List.setIfInBounds_toArray, List.set_cons_zero, List.set_cons_succ]
    refine wpAnyH_take (i := 15) (oi := { dst := some 7, op := Op.assign (Operand.tmp 29), type := 74, pos := "limbs.go:203", after := #[{ on := 13, ground := Ground.data }, { on := 11, ground := Ground.chain }, { on := 0, ground := Ground.phase }, { on := 1, ground := Ground.phase }, { on := 2, ground := Ground.phase }, { on := 3, ground := Ground.phase }, { on := 4, ground := Ground.phase }, { on := 5, ground := Ground.phase }, { on := 6, ground := Ground.phase }, { on := 7, ground := Ground.phase }, { on := 8, ground := Ground.phase }, { on := 9, ground := Ground.phase }, { on := 10, ground := Ground.phase }, { on := 11, ground := Ground.phase }, { on := 12, ground := Ground.phase }, { on := 13, ground := Ground.phase }, { on := 14, ground := Ground.textOnly Departure.lateStores }], guard := none }) (v := .int .u64 ((gs : Nat) : Int)) rfl (by kernel_rfl) (by kernel_rfl) (by kernel_rfl) (fun _ _ _ h => h) (Or.inl ⟨by rfl, fun W hW => ?y19⟩) hs15 ?_
    case y19 => go_simp
    try dsimp only [Act.put]
    try simp only [List.setIfInBounds_toArray, List.set_cons_zero, List.set_cons_succ]
    refine wpAnyH_take (i := 16) (oi := { dst := some 8, op := Op.assign (Operand.tmp 30), type := 74, pos := "limbs.go:203", after := #[{ on := 14, ground := Ground.data }, { on := 15, ground := Ground.chain }, { on := 0, ground := Ground.phase }, { on := 1, ground := Ground.phase }, { on := 2, ground := Ground.phase }, { on := 3, ground := Ground.phase }, { on := 4, ground := Ground.phase }, { on := 5, ground := Ground.phase }, { on := 6, ground := Ground.phase }, { on := 7, ground := Ground.phase }, { on := 8, ground := Ground.phase }, { on := 9, ground := Ground.phase }, { on := 10, ground := Ground.phase }, { on := 11, ground := Ground.phase }, { on := 12, ground := Ground.phase }, { on := 13, ground := Ground.phase }, { on := 14, ground := Ground.phase }, { on := 15, ground := Ground.phase }], guard := none }) (v := .int .u64 ((gr : Nat) : Int)) rfl (by kernel_rfl) (by kernel_rfl) (by kernel_rfl) (fun _ _ _ h => h) (Or.inl ⟨by rfl, fun W hW => ?y20⟩) hs15 ?_
    case y20 => go_simp
    try dsimp only [Act.put]
    try simp only [List.setIfInBounds_toArray, List.set_cons_zero, List.set_cons_succ]
    refine wpAnyH_done (by kernel_rfl) ?_ _
    try dsimp only [Act.put]
    try simp only [List.setIfInBounds_toArray, List.set_cons_zero, List.set_cons_succ]
    go_wp2_with fail
    go_meet
    exact ⟨rfl, hs15⟩
  case rest =>
    obtain ⟨rfl, q1, hwc⟩ := hcut
    have hrow1 : Row wc g pre rl (.int .u32 ((hi : Nat) : Int) :: post) := by rw [hwc]; exact HRow.out
    have hrd1 : Rd wc g A2 (Lc dl) := by rw [hwc]; exact HRd.out
    have hgr1 : w.grownBy wc (some g) := by rw [hwc]; exact grown_drewN (grown_refl _ _) q1
    clear hwc
    generalize wc = W1 at *
    have HRow1 := Lib.hid hrow1; have HRd1 := Lib.hid hrd1; have HG1 := Lib.hid hgr1
    have HCell1 := Lib.hid (Row.post_cell (n := n) hrow1 HTL.out)
    rw [← HP.out] at HCell1
    have htt := takeTimes_any g pre (.int .u32 ((hi : Nat) : Int) :: post) rl dl c n c2 A2 (World.drew W1) HRt.out HD.out (by omega) (by rw [HTL.out, HDL.out]) (by rw [HTL.out]; omega) (by rw [← HP.out]; omega) hrow1 hrd1
    unfold TakeP at htt
    rw [HTL.out, HDL.out, ← HP.out] at htt
    have HTT := Lib.hid htt
    clear hrow1 hrd1 hgr1 htt
    go_upto_region 6 with (fail)
    go_cut [] (fun wx => ∃ b d v : Nat, v = (hi + 4294967296 - b) % 4294967296 ∧ b ≤ c ∧ num rl + 4294967296 ^ n * b = c * num dl + d ∧ d < 4294967296 ^ n ∧ Row wx g pre (digs n d) (.int .u32 ((v : Nat) : Int) :: post) ∧ W1.grownBy wx (some g))
    case first =>
      refine wp_region_any (by kernel_rfl) ?_
      change wpAny _ _ _ _ _ _ _ (World.drew W1)
      refine wpAny_take (i := 0) (oi := { dst := some 38, op := Op.move (Operand.tmp 0), type := 22, pos := "limbs.go:206", after := #[], guard := none }) (v := .slice (some ⟨g, p, none⟩) (n + 1) (n + 1)) rfl (by kernel_rfl) (by kernel_rfl) (by kernel_rfl) (fun _ _ _ h => h) (Or.inl ⟨by rfl, fun W => ?y1⟩) ?_
      case y1 => go_simp
      try dsimp only [Act.put]
      try simp only [List.setIfInBounds_toArray, List.set_cons_zero, List.set_cons_succ]
      refine wpAny_take (i := 1) (oi := { dst := some 39, op := Op.move (Operand.tmp 5), type := 3, pos := "limbs.go:206", after := #[], guard := none }) (v := .int .i64 ((n : Nat) : Int)) rfl (by kernel_rfl) (by kernel_rfl) (by kernel_rfl) (fun _ _ _ h => h) (Or.inl ⟨by rfl, fun W => ?y2⟩) ?_
      case y2 => go_simp
      try dsimp only [Act.put]
      try simp only [List.setIfInBounds_toArray, List.set_cons_zero, List.set_cons_succ]
      refine wpAny_take (i := 2) (oi := { dst := some 40, op := Op.indexAddr 22 (Operand.tmp 38) (Operand.tmp 39), type := 0, pos := "limbs.go:206", after := #[{ on := 0, ground := Ground.data }, { on := 1, ground := Ground.data }], guard := none }) (v := .pointer (some ⟨g, p + n, none⟩)) rfl (by kernel_rfl) (by kernel_rfl) (by kernel_rfl) (fun _ _ _ h => h) (Or.inl ⟨by rfl, fun W => by have hjl : (n : Int) < (n : Int) + 1 := (by omega); go_simp⟩) ?_
      try dsimp only [Act.put]
      try simp only [List.setIfInBounds_toArray, List.set_cons_zero, List.set_cons_succ]
      refine wpAny_take (i := 4) (oi := { dst := some 42, op := Op.move (Operand.tmp 10), type := 22, pos := "limbs.go:206", after := #[], guard := none }) (v := .slice (some ⟨g, p, none⟩) n n) rfl (by kernel_rfl) (by kernel_rfl) (by kernel_rfl) (fun _ _ _ h => h) (Or.inl ⟨by rfl, fun W => ?y4⟩) ?_
      case y4 => go_simp
      try dsimp only [Act.put]
      try simp only [List.setIfInBounds_toArray, List.set_cons_zero, List.set_cons_succ]
      refine wpAny_take (i := 5) (oi := { dst := some 43, op := Op.move (Operand.tmp 1), type := 22, pos := "limbs.go:206", after := #[], guard := none }) (v := .slice A2 n c2) rfl (by kernel_rfl) (by kernel_rfl) (by kernel_rfl) (fun _ _ _ h => h) (Or.inl ⟨by rfl, fun W => ?y5⟩) ?_
      case y5 => go_simp
      try dsimp only [Act.put]
      try simp only [List.setIfInBounds_toArray, List.set_cons_zero, List.set_cons_succ]
      refine wpAny_take (i := 6) (oi := { dst := some 44, op := Op.move (Operand.tmp 9), type := 66, pos := "limbs.go:206", after := #[], guard := none }) (v := .int .u32 ((c : Nat) : Int)) rfl (by kernel_rfl) (by kernel_rfl) (by kernel_rfl) (fun _ _ _ h => h) (Or.inl ⟨by rfl, fun W => ?y6⟩) ?_
      case y6 => go_simp
      try dsimp only [Act.put]
      try simp only [List.setIfInBounds_toArray, List.set_cons_zero, List.set_cons_succ]
      refine wpAny_ready (rs := [3, 7]) (by kernel_rfl) (by simp) ?_
      refine AllReady.cons (o := { dst := some 41, op := Op.load 66 (Operand.tmp 40), type := 66, pos := "limbs.go:206", after := #[{ on := 2, ground := Ground.data }], guard := none }) rfl (fun K hK => ?_) (AllReady.cons (o := { dst := some 45, op := Op.call { callee := Callee.value (Operand.func 130), args := #[Operand.tmp 42, Operand.tmp 43, Operand.tmp 44], argTypes := #[22, 22, 66] }, type := 66, pos := "limbs.go:206", after := #[{ on := 4, ground := Ground.data }, { on := 5, ground := Ground.data }, { on := 6, ground := Ground.data }], guard := none }) rfl (fun K hK => ?_) AllReady.nil)
      · rw [if_pos (by rfl)]
        have hcl := HCell1.out
        go_simp
        (try (refine hK _ _ ?_; clear hK K))
        try dsimp only [Act.put]
        try simp only [List.setIfInBounds_toArray, List.set_cons_zero, List.set_cons_succ]
        refine wpAny_ready (rs := [7]) (by kernel_rfl) (by simp) ?_
        refine AllReady.cons (o := { dst := some 45, op := Op.call { callee := Callee.value (Operand.func 130), args := #[Operand.tmp 42, Operand.tmp 43, Operand.tmp 44], argTypes := #[22, 22, 66] }, type := 66, pos := "limbs.go:206", after := #[{ on := 4, ground := Ground.data }, { on := 5, ground := Ground.data }, { on := 6, ground := Ground.data }], guard := none }) rfl (fun K hK => ?_) AllReady.nil
        rw [if_pos (by rfl)]
        go_simp
        refine (HTT.out).mono ?_; rintro e w7 ⟨b, d, rfl, hT8⟩
        obtain ⟨v, hv⟩ : ∃ v, v = (hi + 4294967296 - b) % 4294967296 := ⟨_, rfl⟩
        have HV := Lib.hid hv
        clear hv
        have HT := Lib.hid hT8
        have hpc := HT.out.2.2.2.1.post_cell
        rw [← HP.out] at hpc
        have HPC := Lib.hid hpc
        have hpp := fun v => HT.out.2.2.2.1.post_put v
        rw [← HP.out] at hpp
        have HPP := Lib.hid hpp
        have HGP := Lib.hid (fun u => grown_put (grown_from HT.out.2.2.2.2) (p + n) u)
        clear hT8 hpc hpp
        go_wp2_with fail
        (try (refine hK _ _ ?_; clear hK K))
        try dsimp only [Act.put]
        try simp only [List.setIfInBounds_toArray, List.set_cons_zero, List.set_cons_succ]
        refine wpAny_take (i := 8) (oi := { dst := some 46, op := Op.binOp BinOp.sub 66 (Operand.tmp 41) (Operand.tmp 45) 66, type := 66, pos := "limbs.go:206", after := #[{ on := 3, ground := Ground.data }, { on := 7, ground := Ground.data }], guard := none }) (v := .int .u32 ((v : Nat) : Int)) rfl (by kernel_rfl) (by kernel_rfl) (by kernel_rfl) (fun _ _ _ h => h) (Or.inl ⟨by rfl, fun W => by go_simp; (first | simp only [IntKind.wrap_u32] | skip); have h := HV.out; have hbl := HT.out.1; omega⟩) ?_
        try dsimp only [Act.put]
        try simp only [List.setIfInBounds_toArray, List.set_cons_zero, List.set_cons_succ]
        refine wpAny_take (i := 9) (oi := { dst := some 47, op := Op.indexAddr 22 (Operand.tmp 38) (Operand.tmp 39), type := 0, pos := "limbs.go:206", after := #[{ on := 0, ground := Ground.data }, { on := 1, ground := Ground.data }, { on := 0, ground := Ground.phase }, { on := 1, ground := Ground.phase }, { on := 2, ground := Ground.phase }, { on := 3, ground := Ground.phase }, { on := 4, ground := Ground.phase }, { on := 5, ground := Ground.phase }, { on := 6, ground := Ground.phase }, { on := 7, ground := Ground.phase }, { on := 8, ground := Ground.phase }], guard := none }) (v := .pointer (some ⟨g, p + n, none⟩)) rfl (by kernel_rfl) (by kernel_rfl) (by kernel_rfl) (fun _ _ _ h => h) (Or.inl ⟨by rfl, fun W => by have hjl : (n : Int) < (n : Int) + 1 := (by omega); go_simp⟩) ?_
        try dsimp only [Act.put]
        try simp only [List.setIfInBounds_toArray, List.set_cons_zero, List.set_cons_succ]
        refine wpAny_ready (rs := [10]) (by kernel_rfl) (by simp) ?_
        refine AllReady.cons (o := { dst := none, op := Op.store 66 (Operand.tmp 47) (Operand.tmp 46), type := 0, pos := "limbs.go:206", after := #[{ on := 9, ground := Ground.data }, { on := 8, ground := Ground.data }, { on := 7, ground := Ground.chain }, { on := 0, ground := Ground.phase }, { on := 1, ground := Ground.phase }, { on := 2, ground := Ground.phase }, { on := 3, ground := Ground.phase }, { on := 4, ground := Ground.phase }, { on := 5, ground := Ground.phase }, { on := 6, ground := Ground.phase }, { on := 7, ground := Ground.phase }, { on := 8, ground := Ground.phase }], guard := none }) rfl (fun K hK => ?_) AllReady.nil
        rw [if_pos (by rfl)]
        have hcl := HPC.out
        have hfr := Blk.frozen HT.out.2.2.2.1 (p + n)
        go_simp
        (try (refine hK _ _ ?_; clear hK K))
        try dsimp only [Act.put]
        try simp only [List.setIfInBounds_toArray, List.set_cons_zero, List.set_cons_succ]
        refine wpAny_done (by kernel_rfl) ?_ _
        try dsimp only [Act.put]
        try simp only [List.setIfInBounds_toArray, List.set_cons_zero, List.set_cons_succ]
        go_wp2_with fail
        go_meet
        exact ⟨b, d, v, HV.out, HT.out.1, HT.out.2.1, HT.out.2.2.1, HPP.out v, HGP.out _⟩
      · rw [if_pos (by rfl)]
        go_simp
        refine (HTT.out).mono ?_; rintro e w11 ⟨b, d, rfl, hT12⟩
        obtain ⟨v, hv⟩ : ∃ v, v = (hi + 4294967296 - b) % 4294967296 := ⟨_, rfl⟩
        have HV := Lib.hid hv
        clear hv
        have HT := Lib.hid hT12
        have hpc := HT.out.2.2.2.1.post_cell
        rw [← HP.out] at hpc
        have HPC := Lib.hid hpc
        have hpp := fun v => HT.out.2.2.2.1.post_put v
        rw [← HP.out] at hpp
        have HPP := Lib.hid hpp
        have HGP := Lib.hid (fun u => grown_put (grown_from HT.out.2.2.2.2) (p + n) u)
        clear hT12 hpc hpp
        go_wp2_with fail
        (try (refine hK _ _ ?_; clear hK K))
        try dsimp only [Act.put]
        try simp only [List.setIfInBounds_toArray, List.set_cons_zero, List.set_cons_succ]
        refine wpAny_ready (rs := [3]) (by kernel_rfl) (by simp) ?_
        refine AllReady.cons (o := { dst := some 41, op := Op.load 66 (Operand.tmp 40), type := 66, pos := "limbs.go:206", after := #[{ on := 2, ground := Ground.data }], guard := none }) rfl (fun K hK => ?_) AllReady.nil
        rw [if_pos (by rfl)]
        have hcl := HPC.out
        go_simp
        (try (refine hK _ _ ?_; clear hK K))
        try dsimp only [Act.put]
        try simp only [List.setIfInBounds_toArray, List.set_cons_zero, List.set_cons_succ]
        refine wpAny_take (i := 8) (oi := { dst := some 46, op := Op.binOp BinOp.sub 66 (Operand.tmp 41) (Operand.tmp 45) 66, type := 66, pos := "limbs.go:206", after := #[{ on := 3, ground := Ground.data }, { on := 7, ground := Ground.data }], guard := none }) (v := .int .u32 ((v : Nat) : Int)) rfl (by kernel_rfl) (by kernel_rfl) (by kernel_rfl) (fun _ _ _ h => h) (Or.inl ⟨by rfl, fun W => by go_simp; (first | simp only [IntKind.wrap_u32] | skip); have h := HV.out; have hbl := HT.out.1; omega⟩) ?_
        try dsimp only [Act.put]
        try simp only [List.setIfInBounds_toArray, List.set_cons_zero, List.set_cons_succ]
        refine wpAny_take (i := 9) (oi := { dst := some 47, op := Op.indexAddr 22 (Operand.tmp 38) (Operand.tmp 39), type := 0, pos := "limbs.go:206", after := #[{ on := 0, ground := Ground.data }, { on := 1, ground := Ground.data }, { on := 0, ground := Ground.phase }, { on := 1, ground := Ground.phase }, { on := 2, ground := Ground.phase }, { on := 3, ground := Ground.phase }, { on := 4, ground := Ground.phase }, { on := 5, ground := Ground.phase }, { on := 6, ground := Ground.phase }, { on := 7, ground := Ground.phase }, { on := 8, ground := Ground.phase }], guard := none }) (v := .pointer (some ⟨g, p + n, none⟩)) rfl (by kernel_rfl) (by kernel_rfl) (by kernel_rfl) (fun _ _ _ h => h) (Or.inl ⟨by rfl, fun W => by have hjl : (n : Int) < (n : Int) + 1 := (by omega); go_simp⟩) ?_
        try dsimp only [Act.put]
        try simp only [List.setIfInBounds_toArray, List.set_cons_zero, List.set_cons_succ]
        refine wpAny_ready (rs := [10]) (by kernel_rfl) (by simp) ?_
        refine AllReady.cons (o := { dst := none, op := Op.store 66 (Operand.tmp 47) (Operand.tmp 46), type := 0, pos := "limbs.go:206", after := #[{ on := 9, ground := Ground.data }, { on := 8, ground := Ground.data }, { on := 7, ground := Ground.chain }, { on := 0, ground := Ground.phase }, { on := 1, ground := Ground.phase }, { on := 2, ground := Ground.phase }, { on := 3, ground := Ground.phase }, { on := 4, ground := Ground.phase }, { on := 5, ground := Ground.phase }, { on := 6, ground := Ground.phase }, { on := 7, ground := Ground.phase }, { on := 8, ground := Ground.phase }], guard := none }) rfl (fun K hK => ?_) AllReady.nil
        rw [if_pos (by rfl)]
        have hcl := HPC.out
        have hfr := Blk.frozen HT.out.2.2.2.1 (p + n)
        go_simp
        (try (refine hK _ _ ?_; clear hK K))
        try dsimp only [Act.put]
        try simp only [List.setIfInBounds_toArray, List.set_cons_zero, List.set_cons_succ]
        refine wpAny_done (by kernel_rfl) ?_ _
        try dsimp only [Act.put]
        try simp only [List.setIfInBounds_toArray, List.set_cons_zero, List.set_cons_succ]
        go_wp2_with fail
        go_meet
        exact ⟨b, d, v, HV.out, HT.out.1, HT.out.2.1, HT.out.2.2.1, HPP.out v, HGP.out _⟩
    case rest =>
      obtain ⟨b, d, v, hv, hbc, heq, hdl, hrow2, hg2⟩ := hcut
      generalize wc = W2 at *
      have hg2' : w.grownBy W2 (some g) := HG1.out.trans hg2
      obtain ⟨f0, f1, f2, f3⟩ := HF.out
      have hsum : c = nR / num dl ∨ c = nR / num dl + 1 := by have := HQ.out; omega
      rcases hsum with hc | hc
      · obtain ⟨hb, hd⟩ := take_right (num rl) hi (num dl) (4294967296 ^ n) c b d nR f2 f1 hc heq hdl f0
        have hv0 : v = 0 := by omega
        subst hv0
        have hcell := Row.post_cell (n := n) hrow2
        rw [← HP.out] at hcell
        have hfin : Row W2 g pre (digs (n + 1) (nR % num dl)) post := by
          have e : digs (n + 1) (nR % num dl) = digs n d ++ [0] := by rw [digs_snoc, ← hd, Nat.div_eq_of_lt hdl]
          unfold Row at hrow2 ⊢
          rw [e, Lc_append, List.append_assoc]; exact hrow2
        have HFin := Lib.hid hfin; have HG2 := Lib.hid hg2'
        have HC := Lib.hid hc
        clear hfin hg2' hg2 hrow2 hb hd hv heq hdl f0 f1 f2 f3 hc
        go_wp2
        go_ret
        exact ⟨by rw [← HC.out]; rfl, HFin.out, HG2.out⟩
      · obtain ⟨hb, hd⟩ := take_over (num rl) hi (num dl) (4294967296 ^ n) c b d nR f2 f1 hc heq hdl f0
        have hv0 : v = 4294967295 := by omega
        subst hv0
        have hcell := Row.post_cell (n := n) hrow2
        rw [← HP.out] at hcell
        have HCell2 := Lib.hid hcell
        have hat := addTimes_any g pre (.int .u32 (((4294967295 : Nat) : Nat) : Int) :: post) (digs n d) dl 1 n c2 A2 (World.drew W2) (digs_ok _ _) HD.out (by omega) (by rw [digs_len, HDL.out]) (by rw [digs_len]; omega) (by rw [← HP.out]; omega) hrow2 (HRd1.out.below (grown_below (grown_drewN hg2 1) (Nat.le_of_lt (Blk.lt HRow1.out))))
        rw [digs_len, HDL.out, ← HP.out, num_digs, Nat.mod_eq_of_lt hdl, Nat.one_mul] at hat
        rw [show ((1 : Nat) : Int) = 1 from rfl] at hat
        have HAT := Lib.hid hat
        have hmod : nR % num dl < 4294967296 ^ n := Nat.lt_trans (Nat.mod_lt _ f0) f1
        have HONE := Lib.hid (show (((d + num dl) / 4294967296 ^ n : Nat) : Int) = 1 by rw [hd, Nat.add_div_right _ (pow_pos n), Nat.div_eq_of_lt hmod]; rfl)
        have HDG := Lib.hid (show digs n (d + num dl) = digs n (nR % num dl) by rw [hd]; have := digs_add n (nR % num dl) 1; rwa [Nat.mul_one] at this)
        have HG2 := Lib.hid hg2'
        have HC := Lib.hid hc
        have HM := Lib.hid hmod
        have hc1 : 1 ≤ c := by omega
        clear hcell hat hg2' hg2 hrow2 hb hd hv heq hdl f0 f1 f2 f3 hc hmod
        have hcell2 := HCell2.out
        go_upto_region 8 with (fail)
        go_cut [] (fun wx => Row wx g pre (digs n (d + num dl)) (.int .u32 ((0 : Nat) : Int) :: post) ∧ W2.grownBy wx (some g))
        case first =>
          refine wp_region_any (by kernel_rfl) ?_
          change wpAny _ _ _ _ _ _ _ (World.drew W2)
          refine wpAny_take (i := 0) (oi := { dst := some 53, op := Op.move (Operand.tmp 0), type := 22, pos := "limbs.go:208", after := #[], guard := none }) (v := .slice (some ⟨g, p, none⟩) (n + 1) (n + 1)) rfl (by kernel_rfl) (by kernel_rfl) (by kernel_rfl) (fun _ _ _ h => h) (Or.inl ⟨by rfl, fun W => ?y1⟩) ?_
          case y1 => go_simp
          try dsimp only [Act.put]
          try simp only [List.setIfInBounds_toArray, List.set_cons_zero, List.set_cons_succ]
          refine wpAny_take (i := 1) (oi := { dst := some 54, op := Op.move (Operand.tmp 5), type := 3, pos := "limbs.go:208", after := #[], guard := none }) (v := .int .i64 ((n : Nat) : Int)) rfl (by kernel_rfl) (by kernel_rfl) (by kernel_rfl) (fun _ _ _ h => h) (Or.inl ⟨by rfl, fun W => ?y2⟩) ?_
          case y2 => go_simp
          try dsimp only [Act.put]
          try simp only [List.setIfInBounds_toArray, List.set_cons_zero, List.set_cons_succ]
          refine wpAny_take (i := 2) (oi := { dst := some 55, op := Op.indexAddr 22 (Operand.tmp 53) (Operand.tmp 54), type := 0, pos := "limbs.go:208", after := #[{ on := 0, ground := Ground.data }, { on := 1, ground := Ground.data }], guard := none }) (v := .pointer (some ⟨g, p + n, none⟩)) rfl (by kernel_rfl) (by kernel_rfl) (by kernel_rfl) (fun _ _ _ h => h) (Or.inl ⟨by rfl, fun W => by have hjl : (n : Int) < (n : Int) + 1 := (by omega); go_simp⟩) ?_
          try dsimp only [Act.put]
          try simp only [List.setIfInBounds_toArray, List.set_cons_zero, List.set_cons_succ]
          refine wpAny_take (i := 4) (oi := { dst := some 57, op := Op.move (Operand.tmp 10), type := 22, pos := "limbs.go:208", after := #[], guard := none }) (v := .slice (some ⟨g, p, none⟩) n n) rfl (by kernel_rfl) (by kernel_rfl) (by kernel_rfl) (fun _ _ _ h => h) (Or.inl ⟨by rfl, fun W => ?y4⟩) ?_
          case y4 => go_simp
          try dsimp only [Act.put]
          try simp only [List.setIfInBounds_toArray, List.set_cons_zero, List.set_cons_succ]
          refine wpAny_take (i := 5) (oi := { dst := some 58, op := Op.move (Operand.tmp 1), type := 22, pos := "limbs.go:208", after := #[], guard := none }) (v := .slice A2 n c2) rfl (by kernel_rfl) (by kernel_rfl) (by kernel_rfl) (fun _ _ _ h => h) (Or.inl ⟨by rfl, fun W => ?y5⟩) ?_
          case y5 => go_simp
          try dsimp only [Act.put]
          try simp only [List.setIfInBounds_toArray, List.set_cons_zero, List.set_cons_succ]
          refine wpAny_ready (rs := [3, 6]) (by kernel_rfl) (by simp) ?_
          refine AllReady.cons (o := { dst := some 56, op := Op.load 66 (Operand.tmp 55), type := 66, pos := "limbs.go:208", after := #[{ on := 2, ground := Ground.data }], guard := none }) rfl (fun K hK => ?_) (AllReady.cons (o := { dst := some 59, op := Op.call { callee := Callee.value (Operand.func 96), args := #[Operand.tmp 57, Operand.tmp 58, Operand.const (Value.int IntKind.u32 1)], argTypes := #[22, 22, 66] }, type := 66, pos := "limbs.go:208", after := #[{ on := 4, ground := Ground.data }, { on := 5, ground := Ground.data }], guard := none }) rfl (fun K hK => ?_) AllReady.nil)
          · rw [if_pos (by rfl)]
            have hcl := HCell2.out
            go_simp
            (try (refine hK _ _ ?_; clear hK K))
            try dsimp only [Act.put]
            try simp only [List.setIfInBounds_toArray, List.set_cons_zero, List.set_cons_succ]
            refine wpAny_ready (rs := [6]) (by kernel_rfl) (by simp) ?_
            refine AllReady.cons (o := { dst := some 59, op := Op.call { callee := Callee.value (Operand.func 96), args := #[Operand.tmp 57, Operand.tmp 58, Operand.const (Value.int IntKind.u32 1)], argTypes := #[22, 22, 66] }, type := 66, pos := "limbs.go:208", after := #[{ on := 4, ground := Ground.data }, { on := 5, ground := Ground.data }], guard := none }) rfl (fun K hK => ?_) AllReady.nil
            rw [if_pos (by rfl)]
            go_simp
            refine (HAT.out).mono ?_; rintro e w6 ⟨rfl, hrw, hgw⟩
            have HRW := Lib.hid hrw
            have HGW := Lib.hid hgw
            have hpc := HRW.out.post_cell
            rw [← HP.out] at hpc
            have HPC := Lib.hid hpc
            have hpp := HRW.out.post_put 0
            rw [← HP.out] at hpp
            have HPP := Lib.hid hpp
            have HGP := Lib.hid (fun u => grown_put (grown_from HGW.out) (p + n) u)
            clear hrw hgw hpc hpp
            rw [HONE.out]
            go_wp2_with fail
            (try (refine hK _ _ ?_; clear hK K))
            try dsimp only [Act.put]
            try simp only [List.setIfInBounds_toArray, List.set_cons_zero, List.set_cons_succ]
            refine wpAny_take (i := 7) (oi := { dst := some 60, op := Op.binOp BinOp.add 66 (Operand.tmp 56) (Operand.tmp 59) 66, type := 66, pos := "limbs.go:208", after := #[{ on := 3, ground := Ground.data }, { on := 6, ground := Ground.data }], guard := none }) (v := .int .u32 0) rfl (by kernel_rfl) (by kernel_rfl) (by kernel_rfl) (fun _ _ _ h => h) (Or.inl ⟨by rfl, fun W => by go_simp; (first | done | (simp only [IntKind.wrap_u32]; omega) | omega)⟩) ?_
            try dsimp only [Act.put]
            try simp only [List.setIfInBounds_toArray, List.set_cons_zero, List.set_cons_succ]
            refine wpAny_take (i := 8) (oi := { dst := some 61, op := Op.indexAddr 22 (Operand.tmp 53) (Operand.tmp 54), type := 0, pos := "limbs.go:208", after := #[{ on := 0, ground := Ground.data }, { on := 1, ground := Ground.data }, { on := 0, ground := Ground.phase }, { on := 1, ground := Ground.phase }, { on := 2, ground := Ground.phase }, { on := 3, ground := Ground.phase }, { on := 4, ground := Ground.phase }, { on := 5, ground := Ground.phase }, { on := 6, ground := Ground.phase }, { on := 7, ground := Ground.phase }], guard := none }) (v := .pointer (some ⟨g, p + n, none⟩)) rfl (by kernel_rfl) (by kernel_rfl) (by kernel_rfl) (fun _ _ _ h => h) (Or.inl ⟨by rfl, fun W => by have hjl : (n : Int) < (n : Int) + 1 := (by omega); go_simp⟩) ?_
            try dsimp only [Act.put]
            try simp only [List.setIfInBounds_toArray, List.set_cons_zero, List.set_cons_succ]
            refine wpAny_ready (rs := [9]) (by kernel_rfl) (by simp) ?_
            refine AllReady.cons (o := { dst := none, op := Op.store 66 (Operand.tmp 61) (Operand.tmp 60), type := 0, pos := "limbs.go:208", after := #[{ on := 8, ground := Ground.data }, { on := 7, ground := Ground.data }, { on := 6, ground := Ground.chain }, { on := 0, ground := Ground.phase }, { on := 1, ground := Ground.phase }, { on := 2, ground := Ground.phase }, { on := 3, ground := Ground.phase }, { on := 4, ground := Ground.phase }, { on := 5, ground := Ground.phase }, { on := 6, ground := Ground.phase }, { on := 7, ground := Ground.phase }], guard := none }) rfl (fun K hK => ?_) AllReady.nil
            rw [if_pos (by rfl)]
            have hcl := HPC.out
            have hfr := Blk.frozen HRW.out (p + n)
            go_simp
            (try (refine hK _ _ ?_; clear hK K))
            try dsimp only [Act.put]
            try simp only [List.setIfInBounds_toArray, List.set_cons_zero, List.set_cons_succ]
            refine wpAny_done (by kernel_rfl) ?_ _
            try dsimp only [Act.put]
            try simp only [List.setIfInBounds_toArray, List.set_cons_zero, List.set_cons_succ]
            go_wp2_with fail
            go_meet
            exact ⟨HPP.out, HGP.out _⟩
          · rw [if_pos (by rfl)]
            go_simp
            refine (HAT.out).mono ?_; rintro e w9 ⟨rfl, hrw, hgw⟩
            have HRW := Lib.hid hrw
            have HGW := Lib.hid hgw
            have hpc := HRW.out.post_cell
            rw [← HP.out] at hpc
            have HPC := Lib.hid hpc
            have hpp := HRW.out.post_put 0
            rw [← HP.out] at hpp
            have HPP := Lib.hid hpp
            have HGP := Lib.hid (fun u => grown_put (grown_from HGW.out) (p + n) u)
            clear hrw hgw hpc hpp
            rw [HONE.out]
            go_wp2_with fail
            (try (refine hK _ _ ?_; clear hK K))
            try dsimp only [Act.put]
            try simp only [List.setIfInBounds_toArray, List.set_cons_zero, List.set_cons_succ]
            refine wpAny_ready (rs := [3]) (by kernel_rfl) (by simp) ?_
            refine AllReady.cons (o := { dst := some 56, op := Op.load 66 (Operand.tmp 55), type := 66, pos := "limbs.go:208", after := #[{ on := 2, ground := Ground.data }], guard := none }) rfl (fun K hK => ?_) AllReady.nil
            rw [if_pos (by rfl)]
            have hcl := HPC.out
            go_simp
            (try (refine hK _ _ ?_; clear hK K))
            try dsimp only [Act.put]
            try simp only [List.setIfInBounds_toArray, List.set_cons_zero, List.set_cons_succ]
            refine wpAny_take (i := 7) (oi := { dst := some 60, op := Op.binOp BinOp.add 66 (Operand.tmp 56) (Operand.tmp 59) 66, type := 66, pos := "limbs.go:208", after := #[{ on := 3, ground := Ground.data }, { on := 6, ground := Ground.data }], guard := none }) (v := .int .u32 0) rfl (by kernel_rfl) (by kernel_rfl) (by kernel_rfl) (fun _ _ _ h => h) (Or.inl ⟨by rfl, fun W => by go_simp; (first | done | (simp only [IntKind.wrap_u32]; omega) | omega)⟩) ?_
            try dsimp only [Act.put]
            try simp only [List.setIfInBounds_toArray, List.set_cons_zero, List.set_cons_succ]
            refine wpAny_take (i := 8) (oi := { dst := some 61, op := Op.indexAddr 22 (Operand.tmp 53) (Operand.tmp 54), type := 0, pos := "limbs.go:208", after := #[{ on := 0, ground := Ground.data }, { on := 1, ground := Ground.data }, { on := 0, ground := Ground.phase }, { on := 1, ground := Ground.phase }, { on := 2, ground := Ground.phase }, { on := 3, ground := Ground.phase }, { on := 4, ground := Ground.phase }, { on := 5, ground := Ground.phase }, { on := 6, ground := Ground.phase }, { on := 7, ground := Ground.phase }], guard := none }) (v := .pointer (some ⟨g, p + n, none⟩)) rfl (by kernel_rfl) (by kernel_rfl) (by kernel_rfl) (fun _ _ _ h => h) (Or.inl ⟨by rfl, fun W => by have hjl : (n : Int) < (n : Int) + 1 := (by omega); go_simp⟩) ?_
            try dsimp only [Act.put]
            try simp only [List.setIfInBounds_toArray, List.set_cons_zero, List.set_cons_succ]
            refine wpAny_ready (rs := [9]) (by kernel_rfl) (by simp) ?_
            refine AllReady.cons (o := { dst := none, op := Op.store 66 (Operand.tmp 61) (Operand.tmp 60), type := 0, pos := "limbs.go:208", after := #[{ on := 8, ground := Ground.data }, { on := 7, ground := Ground.data }, { on := 6, ground := Ground.chain }, { on := 0, ground := Ground.phase }, { on := 1, ground := Ground.phase }, { on := 2, ground := Ground.phase }, { on := 3, ground := Ground.phase }, { on := 4, ground := Ground.phase }, { on := 5, ground := Ground.phase }, { on := 6, ground := Ground.phase }, { on := 7, ground := Ground.phase }], guard := none }) rfl (fun K hK => ?_) AllReady.nil
            rw [if_pos (by rfl)]
            have hcl := HPC.out
            have hfr := Blk.frozen HRW.out (p + n)
            go_simp
            (try (refine hK _ _ ?_; clear hK K))
            try dsimp only [Act.put]
            try simp only [List.setIfInBounds_toArray, List.set_cons_zero, List.set_cons_succ]
            refine wpAny_done (by kernel_rfl) ?_ _
            try dsimp only [Act.put]
            try simp only [List.setIfInBounds_toArray, List.set_cons_zero, List.set_cons_succ]
            go_wp2_with fail
            go_meet
            exact ⟨HPP.out, HGP.out _⟩
        case rest =>
          obtain ⟨hrow3, hg3⟩ := hcut
          have hfin : Row wc g pre (digs (n + 1) (nR % num dl)) post := by
            have e : digs (n + 1) (nR % num dl) = digs n (nR % num dl) ++ [0] := by rw [digs_snoc, Nat.div_eq_of_lt HM.out]
            rw [HDG.out] at hrow3
            unfold Row at hrow3 ⊢
            rw [e, Lc_append, List.append_assoc]; exact hrow3
          have HFin := Lib.hid hfin; have HG3 := Lib.hid (HG2.out.trans hg3)
          have HCS := Lib.hid (show ((nR / num dl : Nat) : Int) = (c : Int) - 1 by have := HC.out; omega)
          clear hfin hg3 hrow3 hcell2
          go_wp2
          go_ret
          exact ⟨by rw [HCS.out]; rfl, HFin.out, HG3.out⟩
end Go.Proofs.YtbfhilbagojdnaaGreat
namespace Go.Proofs.YtbfhilbagojdnaaGreat
open Go.RowKit Wr Go.Proofs.YtbfhilbagojdnaaGreat.Nm
set_option linter.unusedVariables false
set_option maxRecDepth 100000

theorem div_round (N D j n m k : Nat) (hD : 0 < D) (hDn : D < 4294967296 ^ n) (hjk : j < k) :
    N % (D * 4294967296 ^ (j + 1)) / 4294967296 ^ j < D * 4294967296 ∧
    digs (j + (n + 1 + m)) (N % (D * 4294967296 ^ (j + 1))) = digs j (N % (D * 4294967296 ^ (j + 1))) ++ (digs (n + 1) (N % (D * 4294967296 ^ (j + 1)) / 4294967296 ^ j) ++ digs m 0) ∧
    digs (j + (n + 1 + m)) (N % (D * 4294967296 ^ j)) = digs j (N % (D * 4294967296 ^ (j + 1))) ++ (digs (n + 1) (N % (D * 4294967296 ^ (j + 1)) / 4294967296 ^ j % D) ++ digs m 0) ∧
    digs (k - j) (N / D / 4294967296 ^ j) = N % (D * 4294967296 ^ (j + 1)) / 4294967296 ^ j / D :: digs (k - (j + 1)) (N / D / 4294967296 ^ (j + 1)) := by
  have hw := left_lt N D j hD
  have hq := quo_digit N D j hD
  have hs := left_step N D j
  have hwin := left_window' (N % (D * 4294967296 ^ (j + 1))) D j
  obtain ⟨V, hV⟩ : ∃ v, v = N % (D * 4294967296 ^ (j + 1)) := ⟨_, rfl⟩
  rw [← hV] at hw hq hs hwin ⊢
  obtain ⟨W, hW⟩ : ∃ v, v = V / 4294967296 ^ j := ⟨_, rfl⟩
  rw [← hW] at hw hq hwin ⊢
  have hn1 : 4294967296 ^ (n + 1) = 4294967296 ^ n * 4294967296 := Nat.pow_succ ..
  have hWn : W < 4294967296 ^ (n + 1) := by
    rw [hn1]
    have : D * 4294967296 ≤ 4294967296 ^ n * 4294967296 := Nat.mul_le_mul_right _ (Nat.le_of_lt hDn)
    exact Nat.lt_of_lt_of_le hw this
  have hWm : W % D < 4294967296 ^ (n + 1) := Nat.lt_of_le_of_lt (Nat.mod_le _ _) hWn
  refine ⟨hw, ?_, ?_, ?_⟩
  · rw [digs_append j (n + 1 + m) V, ← hW, digs_append (n + 1) m W, Nat.div_eq_of_lt hWn]
  · rw [← hs, hwin, digs_append j (n + 1 + m), digs_add, digs_mod, Nat.add_mul_div_left _ _ (pow_pos j), Nat.div_eq_of_lt (Nat.mod_lt _ (pow_pos j)), Nat.zero_add, digs_append (n + 1) m (W % D), Nat.div_eq_of_lt hWm]
  · rw [show k - j = k - (j + 1) + 1 by omega, digs, hq, Nat.pow_succ, Nat.div_div_eq_div_mul (N / D)]
def DvP (w : World) (x y : Nat) (e : Ending) (w' : World) : Prop := ∃ v1 v2, e = .returned (.tuple #[v1, v2]) ∧ Sl w' v1 (lim (x / y)) ∧ Sl w' v2 (lim (x % y)) ∧ Below w.heap.size w w'
theorem num_rep (n : Nat) : num (List.replicate n 0) = 0 := by
  induction n with
  | zero => rfl
  | succ n ih => rw [List.replicate_succ, num_cons, ih]
theorem ok_rep (n : Nat) : Ok (List.replicate n 0) := by
  intro x hx
  have := (List.mem_replicate.1 hx).2
  omega
/-- The highest limb makes the number. -/
theorem top_num (b : List Nat) (n : Nat) (hb : Ok b) (hbl : b.length = n + 1) : num b = num (b.take n) + 4294967296 ^ n * (b[n]'(by omega)) ∧ num (b.take n) < 4294967296 ^ n := by
  have h1 := num_take_succ b n (by omega)
  rw [List.take_of_length_le (by omega)] at h1
  have h2 := num_lt _ (hb.take n)
  rw [List.length_take, Nat.min_eq_left (by omega)] at h2
  exact ⟨h1, h2⟩
theorem scale_top2 (x : Nat) (h : x ≠ 0) (hx : x < 4294967296) : (x + 1) * 2 ^ (32 - blen x) ≤ 4294967296 := by
  have a := blen_lt x
  have c : blen x ≤ 32 := blen_le.2 hx
  have : (x + 1) * 2 ^ (32 - blen x) ≤ 2 ^ blen x * 2 ^ (32 - blen x) := Nat.mul_le_mul_right _ a
  rw [← Nat.pow_add, show blen x + (32 - blen x) = 32 by omega] at this
  exact this
theorem scale_facts (b : List Nat) (n x s : Nat) (hb : Ok b) (hbl : b.length = n + 1) (hx : x = b[n]'(by omega)) (h1 : 2147483648 ≤ x * s) (h2 : (x + 1) * s ≤ 4294967296) (hs : 0 < s) :
    4294967296 ^ (n + 1) ≤ 2 * (s * num b) ∧ s * num b < 4294967296 ^ (n + 1) := by
  obtain ⟨e1, e2⟩ := top_num b n hb hbl
  rw [← hx] at e1
  have p := pow_pos n
  have e3 : s * num b = s * num (b.take n) + 4294967296 ^ n * (x * s) := by
    rw [e1, Nat.mul_add, Nat.mul_left_comm, Nat.mul_comm s x]
  have h3 : 4294967296 ^ n * 2147483648 ≤ 4294967296 ^ n * (x * s) := Nat.mul_le_mul_left _ h1
  rw [Nat.pow_succ, e3]
  have h4 : s * num (b.take n) < s * 4294967296 ^ n := Nat.mul_lt_mul_of_pos_left e2 hs
  have h5 : 4294967296 ^ n * ((x + 1) * s) ≤ 4294967296 ^ n * 4294967296 := Nat.mul_le_mul_left _ h2
  rw [Nat.add_mul, Nat.one_mul, Nat.mul_add, Nat.mul_comm (4294967296 ^ n) s] at h5
  clear e1 e2 e3 h1 h2 hx hbl
  generalize 4294967296 ^ n * (x * s) = q at *
  generalize s * num (b.take n) = t at *
  generalize s * 4294967296 ^ n = z at *
  generalize 4294967296 ^ n = y at *
  constructor
  · rw [Nat.mul_comm y]; omega
  · rw [Nat.mul_comm y]; rw [Nat.mul_comm y] at h5; omega
theorem Row.blk {w : World} {g : Nat} {l : List Nat} (h : Row w g [] l []) : Blk w g 66 (Lc l) := by
  unfold Row at h; rwa [List.nil_append, List.append_nil] at h
theorem div_put {w : World} {g la : Nat} {N : Nat} (h : Row w g [] (digs la N) [.int .u32 0]) (q : Nat) (hq : q = N / 4294967296 ^ la) (hql : q < 4294967296) :
    w.cell? ⟨g, la, none⟩ = some (.int .u32 0) ∧ w.frozen? ⟨g, la, none⟩ = false ∧ Blk (w.setCell ⟨g, la, none⟩ (.int .u32 ((q : Nat) : Int))) g 66 (Lc (digs (la + 1) N)) := by
  have hc := Row.post_cell (n := la) h
  have hp := Row.post_put (n := la) h q
  rw [List.length_nil, Nat.zero_add] at hc hp
  refine ⟨hc, Blk.frozen h _, ?_⟩
  unfold Row at hp
  rw [digs_snoc, Lc_append, ← hq, Nat.mod_eq_of_lt hql]
  exact hp
theorem Row.ofBlk {w : World} {g : Nat} {a b c : List Nat} (h : Blk w g 66 (Lc (a ++ (b ++ c)))) : Row w g (Lc a) b (Lc c) := by
  unfold Row; rw [Lc_append, Lc_append] at h; exact h
theorem Row.toBlk {w : World} {g : Nat} {a b c : List Nat} (h : Row w g (Lc a) b (Lc c)) : Blk w g 66 (Lc (a ++ (b ++ c))) := by
  unfold Row at h; rw [Lc_append, Lc_append]; exact h
theorem shl_one (lz : Nat) (h : lz ≤ 31) : IntKind.u32.wrap ((2 : Int) ^ lz) = ((2 ^ lz : Nat) : Int) := by
  have h1 : (2 : Nat) ^ lz ≤ 2 ^ 31 := Nat.pow_le_pow_right (by omega) h
  have e : (2 : Nat) ^ 31 = 2147483648 := by decide
  have e2 : ((2 ^ lz : Nat) : Int) = (2 : Int) ^ lz := by simp
  rw [← e2]
  generalize 2 ^ lz = t at h1
  exact IntWalk.u32_in _ (by omega)
set_option maxHeartbeats 4000000 in
theorem divided_long (A A2 : Option Addr) (a b : List Nat) (n la c c2 : Nat) (w : World) (ha : Ok a) (hb : Ok b) (hal : a.length = la) (hbl : b.length = n) (hn : 2 ≤ n) (hnl : n ≤ la) (hla : la ≤ 100000) (pb : dropz b = b)
    (hr : Rd w w.heap.size A (Lc a)) (hr2 : Rd w w.heap.size A2 (Lc b)) :
    Calls Tryz.prog 63 #[.slice A la c, .slice A2 n c2] w (DvP w (num a) (num b)) := by
  obtain ⟨n1, hn1⟩ : ∃ m, n = m + 1 := ⟨n - 1, by omega⟩
  have hxne := (prp_last b n1 (by omega)).1 pb
  have hxB := hb.get n1 (by omega)
  obtain ⟨x, hx⟩ : ∃ x, x = b[n1]'(by omega) := ⟨_, rfl⟩
  rw [← hx] at hxne hxB
  obtain ⟨lz, hlz⟩ : ∃ z, z = 32 - blen x := ⟨_, rfl⟩
  obtain ⟨s, hs⟩ : ∃ s, s = 2 ^ lz := ⟨_, rfl⟩
  obtain ⟨t1, t2, t3⟩ := scale_top x hxne hxB
  have t4 := scale_top2 x hxne hxB
  have hs0 : 0 < s := by rw [hs]; exact Nat.two_pow_pos _
  rw [← hlz, ← hs] at t1 t2 t4
  have hlz32 : lz ≤ 31 := by have := blen_pos hxne; omega
  obtain ⟨D, hD⟩ : ∃ D, D = s * num b := ⟨_, rfl⟩
  obtain ⟨N, hN⟩ : ∃ N, N = s * num a := ⟨_, rfl⟩
  obtain ⟨d1, d2⟩ := scale_facts b n1 x s hb (by omega) hx t1 t4 hs0
  rw [← hn1, ← hD] at d1 d2
  have d0 : 0 < D := by have := pow_pos n; omega
  have hsB : s < 4294967296 := by
    have : 1 * s ≤ x * s := Nat.mul_le_mul_right _ (by omega)
    omega
  have hNq : N / 4294967296 ^ la < 4294967296 := by
    rw [Nat.div_lt_iff_lt_mul (pow_pos la), hN]
    have h1 := num_lt a ha
    rw [hal] at h1
    exact Nat.mul_lt_mul_of_lt_of_lt hsB h1
  obtain ⟨k, hk⟩ : ∃ k, k = la + 1 - n := ⟨_, rfl⟩
  have hNk : N < D * 4294967296 ^ k := by
    have h1 := num_lt a ha
    rw [hal] at h1
    have h2 : N < s * 4294967296 ^ la := by rw [hN]; exact Nat.mul_lt_mul_of_pos_left h1 hs0
    have h3 := (top_num b n1 hb (by omega)).1
    rw [← hx] at h3
    have h4 : 4294967296 ^ n1 * 1 ≤ 4294967296 ^ n1 * x := Nat.mul_le_mul_left _ (by omega)
    have h5 : s * 4294967296 ^ n1 ≤ D := by rw [hD]; exact Nat.mul_le_mul_left _ (by omega)
    have h6 : s * 4294967296 ^ n1 * 4294967296 ^ k ≤ D * 4294967296 ^ k := Nat.mul_le_mul_right _ h5
    rw [Nat.mul_assoc, ← Nat.pow_add, show n1 + k = la by omega] at h6
    omega
  have hquo : N / D = num a / num b := by rw [hN, hD, Nat.mul_comm s, Nat.mul_comm s]; exact scaled_div _ _ _ hs0
  have hrem : N % D / s = num a % num b := by rw [hN, hD, Nat.mul_comm s, Nat.mul_comm s]; exact scaled_mod _ _ _ hs0
  have hcell := limb_cell hr2 n1 (by omega)
  rw [← hx] at hcell
  have HQuo := Lib.hid hquo; have HRem := Lib.hid hrem
  have HN := Lib.hid hN; have HD := Lib.hid hD
  have HAL := Lib.hid hal; have HBL := Lib.hid hbl
  have HNK := Lib.hid hNk; have HNQ := Lib.hid hNq
  have HDD := Lib.hid (And.intro d0 (And.intro d1 d2))
  have HLZ := Lib.hid hlz; have HS := Lib.hid hs
  have nI : (n : Int) - 1 = (n1 : Int) := by omega
  have kI : (la : Int) + 1 - (n : Int) = (k : Int) := by omega
  have hltI : ¬ (la : Int) < (n : Int) := by omega
  have hneI : ((n : Int) == 1) = false := by rw [beq_eq_false_iff_ne]; omega
  have hn1n : (n1 : Int) < (n : Int) := by omega
  have hkpos : 1 ≤ k := by omega
  have hkla : n + k = la + 1 := by omega
  have HKLA := Lib.hid hkla
  have HN1 := Lib.hid hn1
  -- the divisor's row
  have hmk := mk22 n (by omega) w
  obtain ⟨W0, hW0⟩ : ∃ W0, W0 = w.alloc (.cells (Lc (List.replicate n 0)).toArray 66) := ⟨_, rfl⟩
  have hb0 : Blk W0 w.heap.size 66 (Lc (List.replicate n 0)) := by rw [hW0]; exact Blk.new w 66 _
  have hbel0 : Below w.heap.size w W0 := by rw [hW0]; exact (Below.refl _ _).alloc (Nat.le_refl _) _
  rw [← hW0] at hmk
  have hA1 := addTimes_ad w.heap.size [] [] (List.replicate n 0) b s n c2 (some ⟨w.heap.size, 0, none⟩) A2 W0 (ok_rep n) hb hsB (by rw [hbl, List.length_replicate]) (by rw [List.length_replicate]; omega) (by simp) (fun _ => rfl) (by unfold Row; rw [List.nil_append, List.append_nil]; exact hb0) (hr2.below hbel0)
  rw [List.length_replicate, num_rep, Nat.zero_add, hbl, ← hD] at hA1
  have HA1 := Lib.hid hA1
  have HBel0 := Lib.hid hbel0
  have HL0 := Lib.hid hb0.lt
  obtain ⟨gx, ox, hA2, hgx, hcx⟩ := hcell
  subst hA2
  clear hW0 hb0 hbel0 hA1 hquo hrem hN hD hal hbl hNk hNq d1 d2 d0 hlz hs hk hkla t1 t2 t3 t4 hx hxne hn1
  have hsh := shl_one lz hlz32
  rw [← HS.out] at hsh
  go_enter Tryz.func63, Tryz.ntmps63
  go_wp2_with (go_at_call 110; (with_reducible refine (lz32_any x _ hxB).mono ?_); rintro e w' ⟨rfl, rfl⟩; rw [← HLZ.out])
  refine (HA1.out).mono ?_
  rintro e W1 ⟨rfl, hrow1, hgr1⟩
  rw [List.length_replicate] at hrow1 ⊢
  have hb1 : Blk W1 w.heap.size 66 (Lc (digs n D)) := hrow1.blk
  have hbel1 : Below w.heap.size w W1 := HBel0.out.grown hgr1 (Nat.le_of_lt HL0.out) (by intro q e; injection e with e; omega)
  obtain ⟨g2, hg2⟩ : ∃ g, g = W1.heap.size := ⟨_, rfl⟩
  have hmk2 := mk22 (la + 1) (by omega) W1
  rw [show ((la + 1 : Nat) : Int) = (la : Int) + 1 by omega, ← hg2] at hmk2
  obtain ⟨W2, hW2⟩ : ∃ W2, W2 = W1.alloc (.cells (Lc (List.replicate (la + 1) 0)).toArray 66) := ⟨_, rfl⟩
  have hb2 : Blk W2 g2 66 (Lc (List.replicate (la + 1) 0)) := by rw [hW2, hg2]; exact Blk.new W1 66 _
  have hbel2 : Below w.heap.size w W2 := by rw [hW2]; exact hbel1.alloc hbel1.size _
  have hd2 : Blk W2 w.heap.size 66 (Lc (digs n D)) := by rw [hW2]; exact hb1.alloc _
  rw [← hW2] at hmk2
  have hg12 : w.heap.size < g2 := by rw [hg2]; exact hb1.lt
  have hwg1 : w.heap.size ≤ w.heap.size := Nat.le_refl _
  have hrow2 : Row W2 g2 [] (List.replicate la 0) [.int .u32 0] := by
    unfold Row
    have e : Lc (List.replicate (la + 1) 0) = [] ++ (Lc (List.replicate la 0) ++ [Value.int .u32 0]) := by
      rw [List.nil_append, List.replicate_succ', Lc_append]; rfl
    rw [← e]; exact hb2
  have hA := addTimes_ad g2 [] [.int .u32 0] (List.replicate la 0) a s la c (some ⟨g2, 0, none⟩) A W2 (ok_rep la) ha hsB (by rw [HAL.out, List.length_replicate]) (by rw [List.length_replicate]; omega) (by simp) (fun _ => rfl) hrow2 ((hr.below hbel2).more (by omega))
  rw [List.length_replicate, num_rep, Nat.zero_add, HAL.out, ← HN.out] at hA
  have HA2 := Lib.hid hA
  have hsl2 := sl0 g2 0 (la + 1) (la + 1) la (by omega)
  have HBel2 := Lib.hid hbel2; have HD2 := Lib.hid hd2; have HL2 := Lib.hid hb2.lt
  clear hrow1 hgr1 hb1 hbel1 hg2 hW2 hb2 hbel2 hd2 hrow2 hA HA1 HBel0 HL0 hmk hsh hcx
  go_wp2_with fail
  refine (HA2.out).mono ?_
  rintro e W3 ⟨rfl, hrow3, hgr3⟩
  rw [List.length_replicate] at hrow3 ⊢
  obtain ⟨q, hq⟩ : ∃ q, q = N / 4294967296 ^ la := ⟨_, rfl⟩
  rw [← hq]
  obtain ⟨hc3, hf3, hp3⟩ := div_put hrow3 q hq (by rw [hq]; exact HNQ.out)
  have hd3 := (HD2.out.grown hgr3 (by intro e; injection e with e; omega)).far (p := ⟨g2, la, none⟩) (by simp; omega) (.int .u32 ((q : Nat) : Int))
  have hbel3 := (HBel2.out.grown hgr3 (Nat.le_of_lt (Nat.lt_of_le_of_lt (by omega) HL2.out)) (by intro k e; injection e with e; omega)).setCell (p := ⟨g2, la, none⟩) (by simp; omega) (.int .u32 ((q : Nat) : Int))
  have hqB : q < 4294967296 := by rw [hq]; exact HNQ.out
  have HP3 := Lib.hid hp3; have HD3 := Lib.hid hd3; have HBel3 := Lib.hid hbel3
  clear hq hp3 hd3 hbel3 hrow3 hgr3 hmk2 hsl2 HA2 HBel2 HD2 HL2
  go_upto_region 12 with (fail)
  generalize W3.setCell ⟨g2, la, none⟩ (.int .u32 ((q : Nat) : Int)) = W4 at HP3 HD3 HBel3 ⊢
  obtain ⟨g3, hg3⟩ : ∃ g, g = W4.heap.size := ⟨_, rfl⟩
  have hmk3 := mk22 k (by have := HKLA.out; omega) W4
  rw [← hg3] at hmk3
  obtain ⟨W5, hW5⟩ : ∃ W5, W5 = W4.alloc (.cells (Lc (List.replicate k 0)).toArray 66) := ⟨_, rfl⟩
  rw [← hW5] at hmk3
  have hg23 : g2 < g3 := by rw [hg3]; exact HP3.out.lt
  have hr5 : Blk W5 g2 66 (Lc (digs (la + 1) N)) := by rw [hW5]; exact HP3.out.alloc _
  have hd5 : Blk W5 w.heap.size 66 (Lc (digs n D)) := by rw [hW5]; exact HD3.out.alloc _
  have hq5 : Blk W5 g3 66 (Lc (List.replicate k 0)) := by rw [hW5, hg3]; exact Blk.new W4 66 _
  have hbel5 : Below w.heap.size w W5 := by rw [hW5]; exact HBel3.out.alloc HBel3.out.size _
  clear hc3 hf3 HP3 HD3 HBel3 hg3 hW5
  have HR5 := Lib.hid hr5; have HD5 := Lib.hid hd5; have HQ5 := Lib.hid hq5; have HB5 := Lib.hid hbel5
  clear hr5 hd5 hq5 hbel5
  go_wp2
  clear hmk3 nI kI hltI hneI hn1n hxB hlz32
  go_loopw [12] (fun s12 wr => ∃ j : Nat, j ≤ k ∧ s12 = .int .i64 ((j : Int) - 1) ∧ Blk wr w.heap.size 66 (Lc (digs n D)) ∧ Blk wr g2 66 (Lc (digs (la + 1) (N % (D * 4294967296 ^ j)))) ∧ Blk wr g3 66 (Lc (List.replicate j 0 ++ digs (k - j) (N / D / 4294967296 ^ j))) ∧ Below w.heap.size w wr) (fun s12 _ => (intOf s12 + 1).toNat)
  case atStart =>
    refine ⟨k, Nat.le_refl _, rfl, HD5.out, ?_, ?_, HB5.out⟩
    · rw [Nat.mod_eq_of_lt HNK.out]; exact HR5.out
    · rw [Nat.sub_self]
      simp only [digs, List.append_nil]
      exact HQ5.out
  case round =>
    obtain ⟨j, hj, rfl, hbd, hbr, hbq, hbel⟩ := hrel
    rcases Nat.eq_zero_or_pos j with h0 | h0
    · subst h0
      rw [Nat.pow_zero, Nat.mul_one] at hbr
      rw [Nat.pow_zero, Nat.div_one, Nat.sub_zero, List.replicate_zero, List.nil_append] at hbq
      obtain ⟨d0, d1, d2⟩ := HDD.out
      have hX : N % D < 4294967296 ^ n := Nat.lt_trans (Nat.mod_lt _ d0) d2
      have hrd : Rd wr (g2 + 1) (some ⟨g2, 0, none⟩) (Lc (digs n (N % D))) := by
        have h2 := (Rd.of_blk0 hbr).take n
        rw [Lc_take] at h2
        have e : (digs (la + 1) (N % D)).take n = digs n (N % D) := by
          rw [show la + 1 = n + k by have := HKLA.out; omega, digs_append n k]; exact List.take_left' (digs_len _ _)
        rw [e] at h2; exact h2
      have hby := byLimb_any (some ⟨g2, 0, none⟩) n (digs n (N % D)) s wr (digs_ok _ _) (by rw [digs_len]; omega) (hrd.more hbr.lt) hs0 hsB
      rw [digs_len] at hby
      unfold ByP at hby
      rw [num_digs, Nat.mod_eq_of_lt hX, HRem.out] at hby
      have hql : N / D < 4294967296 ^ k := by rw [Nat.div_lt_iff_lt_mul d0, Nat.mul_comm]; exact HNK.out
      have hdz := dropz_digs k (N / D) hql
      have hlen := digs_len k (N / D)
      have hdz : dropz (digs k (N / D)) = lim (num a / num b) := by rw [hdz, HQuo.out]
      obtain ⟨D3, hD3⟩ : ∃ d, d = digs k (N / D) := ⟨_, rfl⟩
      rw [← hD3] at hbq hlen
      have hdz2 : dropz D3 = lim (num a / num b) := by rw [hD3]; exact hdz
      have HBY := Lib.hid hby; have HBQ := Lib.hid hbq; have HBL := Lib.hid hbel; have HDZ := Lib.hid hdz2; have HLEN := Lib.hid hlen
      have hsl0 := sl0 g2 0 (la + 1) (la + 1) n (by omega)
      clear hby hbq hbel hdz hdz2 hlen hD3 hql hrd hX d0 d1 d2 hbr hbd
      go_wp2_with fail
      refine (HBY.out).mono ?_
      rintro e w1 ⟨v, rfl, hs1, hb1⟩
      have hbq1 := HBQ.out.below hb1 HBQ.out.lt
      have HSL := Lib.hid (proper_sl hbq1 HDZ.out)
      have HRD := Lib.hid (Rd.of_blk0 hbq1)
      have HS1 := Lib.hid hs1
      have HB1 := Lib.hid (HBL.out.trans (hb1.mono HBL.out.size))
      clear hbq1 hs1 hb1 hsl0
      have hpr := fun W (h : w1 = W) => proper_any (some ⟨g3, 0, none⟩) k D3 (g3 + 1) W (by rw [← h]; exact HRD.out) (by rw [HLEN.out]; have := HKLA.out; omega) (by rw [HLEN.out]; exact Nat.le_refl _)
      rw [HLEN.out] at hpr
      have HPR := Lib.hid hpr
      clear hpr
      go_wp2_with (go_at_call 97; (with_reducible refine (HPR.out _ rfl).mono ?_); rintro e w' ⟨rfl, rfl⟩)
      go_ret2
      exact ⟨.slice (some ⟨g3, 0, none⟩) (dropz D3).length (dropz D3).length, v, rfl, HSL.out, HS1.out, HB1.out⟩
    · obtain ⟨i, rfl⟩ : ∃ i, j = i + 1 := ⟨j - 1, by omega⟩
      have hkla := HKLA.out
      obtain ⟨d0, d1, d2⟩ := HDD.out
      obtain ⟨m, hm⟩ : ∃ m, la + 1 = i + (n + 1 + m) := ⟨la - i - n, by omega⟩
      obtain ⟨r1, r2, r3, r4⟩ := div_round N D i n m k d0 d2 (by omega)
      rw [← hm] at r2 r3
      rw [r2] at hbr
      obtain ⟨V, hV⟩ : ∃ v, v = N % (D * 4294967296 ^ (i + 1)) := ⟨_, rfl⟩
      rw [← hV] at hbr r1 r2 r3 r4
      obtain ⟨Wn, hWn⟩ : ∃ v, v = V / 4294967296 ^ i := ⟨_, rfl⟩
      rw [← hWn] at hbr r1 r2 r3 r4
      have hWlt : Wn < 4294967296 ^ (n + 1) := by
        rw [Nat.pow_succ]
        exact Nat.lt_trans r1 (Nat.mul_lt_mul_of_pos_right d2 (by omega))
      have hnumR : num (digs (n + 1) Wn) = Wn := by rw [num_digs, Nat.mod_eq_of_lt hWlt]
      have hnumD : num (digs n D) = D := by rw [num_digs, Nat.mod_eq_of_lt d2]
      obtain ⟨Ad, hAd, hsl⟩ := sl3 g2 (la + 1) (la + 1) i (n + 1) (by omega)
      obtain rfl := hAd (by omega)
      rw [show (i : Int) + ((n + 1 : Nat) : Int) = (i : Int) + (n : Int) + 1 by omega] at hsl
      have hrdd : Rd wr g2 (some ⟨w.heap.size, 0, none⟩) (Lc (digs n D)) := (Rd.of_blk0 hbd).more (by omega)
      have hta := takeAll_any g2 (Lc (digs i V)) (Lc (digs m 0)) (digs (n + 1) Wn) (digs n D) n n (some ⟨w.heap.size, 0, none⟩) wr (digs_ok _ _) (digs_ok _ _) (digs_len _ _) (digs_len _ _) hn (by omega) (by rw [Lc_len, digs_len]; omega) (by rw [hnumD]; exact d1) (by rw [hnumR, hnumD]; exact r1) (Row.ofBlk hbr) hrdd
      rw [hnumR, hnumD, Lc_len, digs_len] at hta
      obtain ⟨qd, hqd⟩ : ∃ q, q = Wn / D := ⟨_, rfl⟩
      have HTA := Lib.hid hta
      have HBD := Lib.hid hbd; have HBQ := Lib.hid hbq; have HBL := Lib.hid hbel
      have HLr := Lib.hid hbr.lt
      have R3 := Lib.hid r3; have R4 := Lib.hid r4; have HQD := Lib.hid hqd
      have iI : (i : Int) < (k : Int) := by omega
      have iL : (i : Int) + (n : Int) + 1 ≤ (la : Int) + 1 := by omega
      clear hkla d0 d1 d2 hm r1 r2 r3 r4 hV hWn hWlt hnumR hnumD hAd hrdd hta hbd hbr hbq hbel hqd
      go_wp2_with fail
      refine (HTA.out).mono ?_
      rintro e w1 ⟨rfl, hrow, hgr⟩
      rw [← HQD.out]
      have hbd1 : Blk w1 w.heap.size 66 (Lc (digs n D)) := HBD.out.grown hgr (by intro e; injection e with e; omega)
      have hbq1 : Blk w1 g3 66 _ := HBQ.out.grown hgr (by intro e; injection e with e; omega)
      have hbr1 : Blk w1 g2 66 (Lc (digs (la + 1) (N % (D * 4294967296 ^ i)))) := by rw [R3.out]; exact Row.toBlk hrow
      have hbel1 := HBL.out.grown hgr (Nat.le_of_lt (Nat.lt_of_le_of_lt (by omega) HLr.out)) (by intro q e; injection e with e; omega)
      have hcq : w1.cell? ⟨g3, i, none⟩ = some (.int .u32 0) := by
        rw [hbq1.cell, Lc_get _ _ (by simp; omega)]; simp
      have hfq := hbq1.frozen i
      have hput := hbq1.put i (.int .u32 ((qd : Nat) : Int))
      rw [Lc_set, rep_set, HQD.out, ← R4.out] at hput
      rw [← HQD.out] at hput
      have hbd2 := hbd1.far (p := ⟨g3, i, none⟩) (by simp; omega) (.int .u32 ((qd : Nat) : Int))
      have hbr2 := hbr1.far (p := ⟨g3, i, none⟩) (by simp; omega) (.int .u32 ((qd : Nat) : Int))
      have hbl2 := hbel1.setCell (p := ⟨g3, i, none⟩) (by simp; omega) (.int .u32 ((qd : Nat) : Int))
      have P1 := Lib.hid hput; have P2 := Lib.hid hbd2; have P3 := Lib.hid hbr2; have P4 := Lib.hid hbl2
      clear hput hbd2 hbr2 hbl2 hbd1 hbq1 hbr1 hbel1 hrow hgr hsl HTA
      go_wp2
      go_roundw
      case rel => exact ⟨i, by omega, by go_num, P2.out, P3.out, P1.out, P4.out⟩
      case measure => simp only [intOf]; omega
end Go.Proofs.YtbfhilbagojdnaaGreat
namespace Go.Proofs.YtbfhilbagojdnaaGreat
open Go.RowKit Wr Go.Proofs.YtbfhilbagojdnaaGreat.Nm
set_option linter.unusedVariables false
set_option maxRecDepth 100000

set_option maxHeartbeats 1000000 in
theorem divided_short (A A2 : Option Addr) (a b : List Nat) (c c2 : Nat) (w : World) (ha : Ok a) (hb : Ok b) (pa : dropz a = a) (pb : dropz b = b) (hlt : a.length < b.length) (hl : a.length ≤ 100000) (hl2 : b.length ≤ 100000) (hnil : A = none → c = 0)
    (hr : Rd w w.heap.size A (Lc a)) : Calls Tryz.prog 63 #[.slice A a.length c, .slice A2 b.length c2] w (DvP w (num a) (num b)) := by
  have hn := ord_lens ha hb pa pb hlt
  have hq : lim (num a / num b) = [] := by rw [Nat.div_eq_of_lt hn, lim_zero]
  have hr0 : lim (num a % num b) = a := by rw [Nat.mod_eq_of_lt hn, ← Prp.eq pa ha]
  have HC := Lib.hid (fun W (h : w = W) => clone_any A c a W (by omega) hnil (by rw [← h]; exact hr))
  have HQ := Lib.hid hq; have HR := Lib.hid hr0
  have hd : decide (a.length < b.length) = true := by simpa using hlt
  clear hq hr0 hr hnil hn
  go_enter Tryz.func63, Tryz.ntmps63
  go_wp2_with (go_at_call 108; (with_reducible refine (HC.out _ rfl).mono ?_); rintro e w' ⟨v, rfl, hs, hb2⟩)
  go_ret2
  exact ⟨.slice none 0 0, v, rfl, by rw [HQ.out]; exact Sl.nil _, by rw [HR.out]; exact hs, hb2⟩
set_option maxHeartbeats 1000000 in
theorem divided_limb (A A2 : Option Addr) (a b : List Nat) (c c2 : Nat) (w : World) (ha : Ok a) (hb : Ok b) (pb : dropz b = b) (hbl : b.length = 1) (h1 : 1 ≤ a.length) (hl : a.length ≤ 100000)
    (hr : Rd w w.heap.size A (Lc a)) (hr2 : Rd w w.heap.size A2 (Lc b)) : Calls Tryz.prog 63 #[.slice A a.length c, .slice A2 b.length c2] w (DvP w (num a) (num b)) := by
  obtain ⟨x, rfl⟩ := List.length_eq_one_iff.1 hbl
  have hne := (prp_last [x] 0 rfl).1 pb
  simp only [List.getElem_cons_zero] at hne
  have hxB : x < 4294967296 := hb.head
  obtain ⟨g, o, rfl, hg, hc⟩ := limb_cell hr2 0 (by simp)
  simp only [List.getElem_cons_zero, Nat.add_zero] at hc
  have hn : num [x] = x := by simp [num]
  rw [hn]
  have HB := Lib.hid (fun W (h : w = W) => byLimb_any A c a x W ha (by omega) (by rw [← h]; exact hr) (by omega) hxB)
  have hrl : num a % x < 18446744073709551616 := by have := Nat.mod_lt (num a) (show 0 < x by omega); omega
  have hrl2 : num a % x < 4294967296 := by have := Nat.mod_lt (num a) (show 0 < x by omega); omega
  have HM := Lib.hid (fun W => limbsOf_any (num a % x) W hrl)
  obtain ⟨m, hm⟩ : ∃ m, m = num a % x := ⟨_, rfl⟩
  unfold ByP at HB
  rw [← hm] at HB HM hrl hrl2
  have HMM := Lib.hid hm
  generalize hla : a.length = la at *
  have hlt : decide (la < 1) = false := by simp; omega
  clear hr hr2 hn hbl hm hne hb pb hla
  show Calls Tryz.prog 63 #[.slice A la c, .slice (some ⟨g, o, none⟩) 1 c2] w _
  go_enter Tryz.func63, Tryz.ntmps63
  go_wp2_with fail
  refine (HB.out _ rfl).mono ?_
  rintro e w1 ⟨v1, rfl, hs1, hb1⟩
  have HS1 := Lib.hid hs1; have HB1 := Lib.hid hb1
  clear hs1 hb1 HB
  go_wp2_with fail
  refine (HM.out _).mono ?_
  rintro e w2 ⟨v2, rfl, hs2, hb2⟩
  have HS2 := Lib.hid hs2; have HB2 := Lib.hid hb2
  clear hs2 hb2 HM
  go_wp2_with fail
  go_ret2
  exact ⟨v1, v2, rfl, HS1.out.below HB2.out, by rw [← HMM.out]; exact HS2.out, HB1.out.trans (HB2.out.mono HB1.out.size)⟩
theorem divided_any (A A2 : Option Addr) (a b : List Nat) (c c2 : Nat) (w : World) (ha : Ok a) (hb : Ok b) (pa : dropz a = a) (pb : dropz b = b) (h0 : 0 < b.length) (hl : a.length ≤ 100000) (hl2 : b.length ≤ 100000) (hnil : A = none → c = 0)
    (hr : Rd w w.heap.size A (Lc a)) (hr2 : Rd w w.heap.size A2 (Lc b)) : Calls Tryz.prog 63 #[.slice A a.length c, .slice A2 b.length c2] w (DvP w (num a) (num b)) := by
  rcases Nat.lt_or_ge a.length b.length with h | h
  · exact divided_short A A2 a b c c2 w ha hb pa pb h hl hl2 hnil hr
  · by_cases h1 : b.length = 1
    · exact divided_limb A A2 a b c c2 w ha hb pb h1 (by omega) hl hr hr2
    · exact divided_long A A2 a b b.length a.length c c2 w ha hb rfl rfl (by omega) h hl pb hr hr2
end Go.Proofs.YtbfhilbagojdnaaGreat
namespace Go.Proofs.YtbfhilbagojdnaaGreat
open Go.RowKit Wr Go.Proofs.YtbfhilbagojdnaaGreat.Nm
set_option linter.unusedVariables false
set_option maxRecDepth 100000

/-- What gets less from step to step. -/
def meas (x y : Nat) : Nat := 2 * (x + y) + (if x < y then 1 else 0)
def CloP (w : World) (a b : Nat) (e : Ending) (w' : World) : Prop := ∃ v1 v2 x y, e = .returned (.tuple #[v1, v2]) ∧ Sl w' v1 (lim x) ∧ Sl w' v2 (lim y) ∧ Nat.gcd x y = Nat.gcd a b ∧ meas x y < meas a b ∧ x ≤ max a b ∧ y ≤ max a b ∧ 0 < x ∧ Below w.heap.size w w'
theorem blen_mono {a b : Nat} (h : a ≤ b) : blen a ≤ blen b := blen_le.2 (Nat.lt_of_le_of_lt h (blen_lt b))
theorem word_low (a : Nat) (h : 64 ≤ blen a) : a / 2 ^ (blen a - 64) < 2 ^ 64 := by
  rw [Nat.div_lt_iff_lt_mul (Nat.two_pow_pos _), ← Nat.pow_add, show 64 + (blen a - 64) = blen a by omega]
  exact blen_lt a
/-- What the steps make of the numbers. -/
theorem steps_make {a b u0 v0 u1 v1 : Nat} {odd : Bool} (h : Made a b u0 v0 u1 v1 odd) (hv : v0 ≠ 0) (hab : b ≤ a) :
    (odd = true → u0 * a ≤ v0 * b ∧ v1 * b ≤ u1 * a ∧ v0 * b - u0 * a ≤ b ∧ u1 * a - v1 * b < v0 * b - u0 * a ∧ Nat.gcd (v0 * b - u0 * a) (u1 * a - v1 * b) = Nat.gcd a b) ∧
    (odd = false → v0 * b ≤ u0 * a ∧ u1 * a ≤ v1 * b ∧ u0 * a - v0 * b ≤ b ∧ v1 * b - u1 * a < u0 * a - v0 * b ∧ Nat.gcd (u0 * a - v0 * b) (v1 * b - u1 * a) = Nat.gcd a b) := by
  obtain ⟨h1, h2, h3, h4, h5⟩ := h
  have h4' : sgn (!odd) u0 v0 a b ≤ b := h4.resolve_left hv
  constructor
  · rintro rfl
    simp only [sgn, Bool.not_true, if_true, Bool.false_eq_true, if_false] at h1 h2 h3 h4' h5
    have e1 : ((v0 * b : Nat) : Int) = (v0 : Int) * (b : Int) := by simp
    have e2 : ((u0 * a : Nat) : Int) = (u0 : Int) * (a : Int) := by simp
    have e3 : ((v1 * b : Nat) : Int) = (v1 : Int) * (b : Int) := by simp
    have e4 : ((u1 * a : Nat) : Int) = (u1 : Int) * (a : Int) := by simp
    rw [← e1, ← e2, ← e3, ← e4] at h5
    rw [← e3, ← e4] at h1 h3
    rw [← e1, ← e2] at h4'
    rw [← e1, ← e2, ← e3, ← e4] at h2
    have g1 : u0 * a ≤ v0 * b := by omega
    have g2 : v1 * b ≤ u1 * a := by omega
    rw [← Int.ofNat_sub g1, ← Int.ofNat_sub g2] at h5
    exact ⟨g1, g2, by omega, by omega, by simpa using h5⟩
  · rintro rfl
    simp only [sgn, Bool.not_false, if_true, Bool.false_eq_true, if_false] at h1 h2 h3 h4' h5
    have e1 : ((v0 * b : Nat) : Int) = (v0 : Int) * (b : Int) := by simp
    have e2 : ((u0 * a : Nat) : Int) = (u0 : Int) * (a : Int) := by simp
    have e3 : ((v1 * b : Nat) : Int) = (v1 : Int) * (b : Int) := by simp
    have e4 : ((u1 * a : Nat) : Int) = (u1 : Int) * (a : Int) := by simp
    rw [← e1, ← e2, ← e3, ← e4] at h5
    rw [← e3, ← e4] at h1 h3
    rw [← e1, ← e2] at h4'
    rw [← e1, ← e2, ← e3, ← e4] at h2
    have g1 : v0 * b ≤ u0 * a := by omega
    have g2 : u1 * a ≤ v1 * b := by omega
    rw [← Int.ofNat_sub g1, ← Int.ofNat_sub g2] at h5
    exact ⟨g1, g2, by omega, by omega, by simpa using h5⟩
theorem meas_lt {a b x y : Nat} (hab : b ≤ a) (h1 : x ≤ b) (h2 : y < x) : meas x y < meas a b := by
  unfold meas
  rw [if_neg (by omega), if_neg (by omega)]
  omega

theorem pos_len {b : List Nat} (h : 0 < num b) : 0 < b.length := by
  rcases Nat.eq_zero_or_pos b.length with h0 | h0
  · rw [List.length_eq_zero_iff.1 h0] at h; simp [num] at h
  · exact h0
theorem sl_of {w : World} {A : Option Addr} {c : Nat} {l : List Nat} (ho : Ok l) (hp : dropz l = l) (hc : l.length ≤ c) (hn : A = none → c = 0) (hr : Rd w w.heap.size A (Lc l)) : Sl w (.slice A l.length c) (lim (num l)) := by
  rw [← Prp.eq hp ho]
  exact ⟨A, c, rfl, hc, hn, hr⟩
set_option maxHeartbeats 1000000 in
theorem closer_swap (A A2 : Option Addr) (a b : List Nat) (c c2 : Nat) (w : World) (ha : Ok a) (hb : Ok b) (pa : dropz a = a) (pb : dropz b = b) (hlt : num a < num b) (hl : a.length ≤ 100000) (hl2 : b.length ≤ 100000) (hc : a.length ≤ c) (hc2 : b.length ≤ c2) (hn : A = none → c = 0) (hn2 : A2 = none → c2 = 0)
    (hr : Rd w w.heap.size A (Lc a)) (hr2 : Rd w w.heap.size A2 (Lc b)) : Calls Tryz.prog 126 #[.slice A a.length c, .slice A2 b.length c2] w (CloP w (num a) (num b)) := by
  have HC := Lib.hid (fun W (h : w = W) => compare_any A A2 a b c c2 w.heap.size W ha hb pa pb (by rw [← h]; exact hr) (by rw [← h]; exact hr2) (by omega) (by omega))
  have HO := Lib.hid (show ord (num a) (num b) = -1 by unfold ord; rw [if_pos hlt])
  have S1 := Lib.hid (sl_of hb pb hc2 hn2 hr2); have S2 := Lib.hid (sl_of ha pa hc hn hr)
  clear hr hr2 hn hn2
  generalize hla : a.length = la at *
  generalize hlb : b.length = lb at *
  clear hla hlb
  go_enter Tryz.func126, Tryz.ntmps126
  go_wp2_with (go_at_call 45; (with_reducible refine (HC.out _ rfl).mono ?_); rintro e w' ⟨rfl, q, rfl⟩; rw [HO.out])
  go_ret2
  refine ⟨.slice A2 lb c2, .slice A la c, num b, num a, rfl, S1.out, S2.out, Nat.gcd_comm _ _, ?_, by omega, by omega, by omega, below_drewN (Below.refl _ _) _⟩
  unfold meas
  rw [if_neg (by omega), if_pos hlt]; omega
set_option maxHeartbeats 2000000 in
theorem closer_any (A A2 : Option Addr) (a b : List Nat) (c c2 : Nat) (w : World) (ha : Ok a) (hb : Ok b) (pa : dropz a = a) (pb : dropz b = b) (hab : num b ≤ num a) (hb0 : 0 < num b) (hbig : 64 < blen (num a)) (hl : a.length ≤ 100000) (hl2 : b.length ≤ 100000) (hc : a.length ≤ c) (hc2 : b.length ≤ c2) (hn : A = none → c = 0) (hn2 : A2 = none → c2 = 0)
    (hr : Rd w w.heap.size A (Lc a)) (hr2 : Rd w w.heap.size A2 (Lc b)) : Calls Tryz.prog 126 #[.slice A a.length c, .slice A2 b.length c2] w (CloP w (num a) (num b)) := by
  have HC := Lib.hid (fun W (h : w = W) => compare_any A A2 a b c c2 w.heap.size W ha hb pa pb (by rw [← h]; exact hr) (by rw [← h]; exact hr2) (by omega) (by omega))
  obtain ⟨o, ho⟩ : ∃ o, o = ord (num a) (num b) := ⟨_, rfl⟩
  have ho0 : 0 ≤ o := by rw [ho]; unfold ord; rw [if_neg (by omega)]; split <;> omega
  obtain ⟨lowN, hlow⟩ : ∃ z, z = blen (num a) - 64 := ⟨_, rfl⟩
  have hbl : blen (num a) ≤ 32 * a.length := blen_le.2 (by rw [← B_two]; exact num_lt a ha)
  have HBit := Lib.hid (fun W (h : ∃ q, W = w.drewN q) => bitLen_any A c a w.heap.size W ha pa (by obtain ⟨q, rfl⟩ := h; exact hr) (by omega))
  have HWa := Lib.hid (fun W (h : ∃ q, W = w.drewN q) => wordAt_any A c a lowN w.heap.size W ha (by obtain ⟨q, rfl⟩ := h; exact hr) (by omega) (by omega))
  have HWb := Lib.hid (fun W (h : ∃ q, W = w.drewN q) => wordAt_any A2 c2 b lowN w.heap.size W hb (by obtain ⟨q, rfl⟩ := h; exact hr2) (by omega) (by omega))
  have hXl := word_low (num a) (by omega)
  rw [← hlow] at hXl
  have hYX : num b / 2 ^ lowN ≤ num a / 2 ^ lowN := Nat.div_le_div_right hab
  rw [Nat.mod_eq_of_lt hXl] at HWa
  rw [Nat.mod_eq_of_lt (Nat.lt_of_le_of_lt hYX hXl)] at HWb
  obtain ⟨X, hX⟩ : ∃ x, x = num a / 2 ^ lowN := ⟨_, rfl⟩
  obtain ⟨Y, hY⟩ : ∃ x, x = num b / 2 ^ lowN := ⟨_, rfl⟩
  rw [← hX] at HWa hXl hYX
  rw [← hY] at HWb hYX
  have e64 : (2 : Nat) ^ 64 = 18446744073709551616 := by decide
  have HSt := Lib.hid (fun W => stepsOf_any X Y W hYX (by omega))
  obtain ⟨la, hla⟩ : ∃ z, z = a.length := ⟨_, rfl⟩
  obtain ⟨lb, hlb⟩ : ∃ z, z = b.length := ⟨_, rfl⟩
  have HMade := Lib.hid (fun (u0 v0 u1 v1 : Nat) (odd : Bool) (h : Gd X Y u0 v0 u1 v1 odd) (hv : v0 ≠ 0) => steps_make (h.2.2.2.2 hv (num a) (num b) (2 ^ lowN) (Nat.two_pow_pos _) hX.symm hY.symm) hv hab)
  have HDv := Lib.hid (fun W (h : Below w.heap.size w W) => divided_any A A2 a b c c2 W ha hb pa pb (pos_len hb0) hl hl2 hn ((hr.below h).more h.size) ((hr2.below h).more h.size))
  have HLt := Lib.hid (fun W (u v : Nat) (h : Below w.heap.size w W) (hu : u < 4294967296) (hv : v < 4294967296) (h1 : v * num b ≤ u * num a) (h2 : u * num a - v * num b ≤ num b) => lessTimes_any A A2 a b u v c c2 W ha hb hu hv ((hr.below h).more h.size) ((hr2.below h).more h.size) (by omega) (by omega) h1 (Nat.lt_of_le_of_lt h2 (Nat.lt_of_lt_of_le (num_lt b hb) (Nat.pow_le_pow_right (by omega) (Nat.le_max_right _ _)))))
  have HLt2 := Lib.hid (fun W (u v : Nat) (h : Below w.heap.size w W) (hu : u < 4294967296) (hv : v < 4294967296) (h1 : v * num a ≤ u * num b) (h2 : u * num b - v * num a ≤ num b) => lessTimes_any A2 A b a u v c2 c W hb ha hu hv ((hr2.below h).more h.size) ((hr.below h).more h.size) (by omega) (by omega) h1 (Nat.lt_of_le_of_lt h2 (Nat.lt_of_lt_of_le (num_lt b hb) (Nat.pow_le_pow_right (by omega) (Nat.le_max_left _ _)))))
  have S1 := Lib.hid (fun W (h : Below w.heap.size w W) => (sl_of hb pb hc2 hn2 hr2).below h)
  rw [← ho] at HC
  rw [← hla, ← hlb] at HC HDv HLt
  rw [← hla] at HBit HWa HLt2
  rw [← hlb] at HWb HLt2 S1
  obtain ⟨bl, hbl2⟩ : ∃ z, z = blen (num a) := ⟨_, rfl⟩
  rw [← hbl2] at HBit hbig hlow hbl
  have hlowI : (bl : Int) - 64 = (lowN : Int) := by omega
  have hoI : ¬ o < 0 := by omega
  rw [← hla, ← hlb]
  rw [← hla] at hl hc hbl
  rw [← hlb] at hl2 hc2
  have HB0 := Lib.hid hb0; have HAB := Lib.hid hab
  clear hr hr2 ho hlow hX hY hbl2 hla hlb e64 hn hn2 hb0 hab
  go_enter Tryz.func126, Tryz.ntmps126
  go_wp2_with (go_at_call 45; (with_reducible refine (HC.out _ rfl).mono ?_); rintro e w' ⟨rfl, q0, rfl⟩)
  go_wp2_with fail
  refine (HBit.out _ ⟨q0, rfl⟩).mono ?_
  rintro e w1 ⟨rfl, rfl⟩
  go_wp2_with fail
  refine (HWa.out _ ⟨q0, rfl⟩).mono ?_
  rintro e w1 ⟨rfl, q1, rfl⟩
  go_wp2_with fail
  refine (HWb.out _ ⟨q0 + q1, rfl⟩).mono ?_
  rintro e w1 ⟨rfl, q2, rfl⟩
  go_wp2_with fail
  refine (HSt.out _).mono ?_
  rintro e w4 ⟨u0, v0, u1, v1, odd, rfl, hgd, hb4⟩
  have hbel4 : Below w.heap.size w w4 := (below_drewN (Below.refl _ _) (q0 + q1 + q2)).trans hb4
  have HG := Lib.hid hgd; have HB4 := Lib.hid hbel4
  clear hb4 hbel4 hgd HSt HC HBit HWa HWb
  go_upto_region 5 with (fail)
  have hbk : Blk (w4.alloc (.cells #[.int .u64 ((u0 : Nat) : Int), .int .u64 ((v0 : Nat) : Int), .int .u64 ((u1 : Nat) : Int), .int .u64 ((v1 : Nat) : Int), .bool odd] 123)) w4.heap.size 123 (SC u0 v0 u1 v1 odd) := Blk.new w4 123 (SC u0 v0 u1 v1 odd)
  have hbl2 : Below w.heap.size w (w4.alloc (.cells #[.int .u64 ((u0 : Nat) : Int), .int .u64 ((v0 : Nat) : Int), .int .u64 ((u1 : Nat) : Int), .int .u64 ((v1 : Nat) : Int), .bool odd] 123)) := HB4.out.alloc HB4.out.size _
  generalize w4.alloc (.cells #[.int .u64 ((u0 : Nat) : Int), .int .u64 ((v0 : Nat) : Int), .int .u64 ((u1 : Nat) : Int), .int .u64 ((v1 : Nat) : Int), .bool odd] 123) = W2 at hbk hbl2 ⊢
  generalize w4.heap.size = g at hbk ⊢
  have HBK := Lib.hid hbk; have HBL := Lib.hid hbl2
  have hcl : W2.cell? ⟨g, 1, none⟩ = some (.int .u64 ((v0 : Nat) : Int)) := (hbk.cell 1).trans rfl
  have hcl4 : W2.cell? ⟨g, 4, none⟩ = some (.bool odd) := (hbk.cell 4).trans rfl
  clear hbk hbl2 HB4
  have b1 := HG.out.1; have b2 := HG.out.2.1; have b3 := HG.out.2.2.1; have b4 := HG.out.2.2.2.1
  by_cases hv0 : v0 = 0
  · subst hv0
    clear HLt HLt2 HMade
    go_wp2_with fail
    refine (HDv.out _ HBL.out).mono ?_
    rintro e w5 ⟨q1', v2, rfl, hs1, hs2, hb5⟩
    have HS2 := Lib.hid hs2
    have HB5 := Lib.hid (HBL.out.trans (hb5.mono HBL.out.size))
    clear hs1 hs2 hb5 HDv
    go_wp2_with fail
    go_ret2
    have hm : num a % num b < num b := Nat.mod_lt _ HB0.out
    exact ⟨.slice A2 lb c2, v2, num b, num a % num b, rfl, S1.out _ HB5.out, HS2.out, by rw [Nat.gcd_comm (num a), Nat.gcd_rec (num b) (num a), Nat.gcd_comm], meas_lt HAB.out (Nat.le_refl _) hm, by omega, by omega, HB0.out, HB5.out⟩
  · have hv0b : ((v0 : Int) == 0) = false := by rw [beq_eq_false_iff_ne]; omega
    have hmk := HMade.out u0 v0 u1 v1 odd HG.out hv0
    have HMK := Lib.hid hmk
    clear hmk hv0 HDv HMade
    cases odd with
    | true =>
      obtain ⟨g1, g2, g3, g4, g5⟩ := HMK.out.1 rfl
      have HC1 := Lib.hid (fun W (h : Below w.heap.size w W) => HLt2.out W v0 u0 h b2 b1 g1 g3)
      have HC2 := Lib.hid (fun W (h : Below w.heap.size w W) => HLt.out W u1 v1 h b3 b4 g2 (by omega))
      have HFIN := Lib.hid (show ∀ (z1 z2 : Value) (W : World), Sl W z1 (lim (v0 * num b - u0 * num a)) → Sl W z2 (lim (u1 * num a - v1 * num b)) → Below w.heap.size w W → CloP w (num a) (num b) (.returned (.tuple #[z1, z2])) W from
        fun z1 z2 W h1 h2 h3 => ⟨z1, z2, _, _, rfl, h1, h2, g5, meas_lt HAB.out g3 g4, by omega, by omega, by omega, h3⟩)
      clear g1 g2 g3 g4 g5 HMK HLt HLt2
      go_upto_region 9 with (fail)
      refine wp_region_held (S := fun W => Blk W g 123 (SC u0 v0 u1 v1 true)) (by kernel_rfl) ?_
      change wpAnyH _ _ _ _ _ _ _ _ (World.drew W2)
      have hs0 : Blk (World.drew W2) g 123 (SC u0 v0 u1 v1 true) := HBK.out
      have B0 : Hid (Below w.heap.size w (World.drew W2)) := Lib.hid (below_drewN HBL.out 1)
      generalize World.drew W2 = Wd at hs0 B0 ⊢
      refine wpAnyH_take (i := 0) (oi := { dst := some 39, op := Op.move (Operand.tmp 1), type := 22, pos := "common.go:44", after := #[], guard := none }) (v := .slice A2 lb c2) rfl (by kernel_rfl) (by kernel_rfl) (by kernel_rfl) (fun _ _ _ h => h) (Or.inl ⟨by rfl, fun W hW => ?y1⟩) hs0 ?_
      case y1 => go_simp
      try dsimp only [Act.put]
      try simp only [List.setIfInBounds_toArray, List.set_cons_zero, List.set_cons_succ]
      refine wpAnyH_take (i := 1) (oi := { dst := some 40, op := Op.fieldAddr 123 (Operand.tmp 7) 1, type := 0, pos := "common.go:44", after := #[], guard := none }) (v := .pointer (some ⟨g, 1, none⟩)) rfl (by kernel_rfl) (by kernel_rfl) (by kernel_rfl) (fun _ _ _ h => h) (Or.inl ⟨by rfl, fun W hW => ?y2⟩) hs0 ?_
      case y2 => go_simp
      try dsimp only [Act.put]
      try simp only [List.setIfInBounds_toArray, List.set_cons_zero, List.set_cons_succ]
      refine wpAnyH_take (i := 2) (oi := { dst := some 41, op := Op.load 74 (Operand.tmp 40), type := 74, pos := "common.go:44", after := #[{ on := 1, ground := Ground.data }], guard := none }) (v := .int .u64 ((v0 : Nat) : Int)) rfl (by kernel_rfl) (by kernel_rfl) (by kernel_rfl) (fun _ _ _ h => h) (Or.inl ⟨by rfl, fun W hW => by have hcl : W.cell? ⟨g, 1, none⟩ = some (.int .u64 ((v0 : Nat) : Int)) := (Blk.cell hW 1).trans rfl; go_simp⟩) hs0 ?_
      try dsimp only [Act.put]
      try simp only [List.setIfInBounds_toArray, List.set_cons_zero, List.set_cons_succ]
      refine wpAnyH_take (i := 3) (oi := { dst := some 42, op := Op.move (Operand.tmp 0), type := 22, pos := "common.go:44", after := #[], guard := none }) (v := .slice A la c) rfl (by kernel_rfl) (by kernel_rfl) (by kernel_rfl) (fun _ _ _ h => h) (Or.inl ⟨by rfl, fun W hW => ?y4⟩) hs0 ?_
      case y4 => go_simp
      try dsimp only [Act.put]
      try simp only [List.setIfInBounds_toArray, List.set_cons_zero, List.set_cons_succ]
      refine wpAnyH_take (i := 4) (oi := { dst := some 43, op := Op.fieldAddr 123 (Operand.tmp 7) 0, type := 0, pos := "common.go:44", after := #[], guard := none }) (v := .pointer (some ⟨g, 0, none⟩)) rfl (by kernel_rfl) (by kernel_rfl) (by kernel_rfl) (fun _ _ _ h => h) (Or.inl ⟨by rfl, fun W hW => ?y5⟩) hs0 ?_
      case y5 => go_simp
      try dsimp only [Act.put]
      try simp only [List.setIfInBounds_toArray, List.set_cons_zero, List.set_cons_succ]
      refine wpAnyH_take (i := 5) (oi := { dst := some 44, op := Op.load 74 (Operand.tmp 43), type := 74, pos := "common.go:44", after := #[{ on := 4, ground := Ground.data }], guard := none }) (v := .int .u64 ((u0 : Nat) : Int)) rfl (by kernel_rfl) (by kernel_rfl) (by kernel_rfl) (fun _ _ _ h => h) (Or.inl ⟨by rfl, fun W hW => by have hcl : W.cell? ⟨g, 0, none⟩ = some (.int .u64 ((u0 : Nat) : Int)) := (Blk.cell hW 0).trans rfl; go_simp⟩) hs0 ?_
      try dsimp only [Act.put]
      try simp only [List.setIfInBounds_toArray, List.set_cons_zero, List.set_cons_succ]
      refine wpAnyH_take (i := 7) (oi := { dst := some 46, op := Op.move (Operand.tmp 0), type := 22, pos := "common.go:44", after := #[], guard := none }) (v := .slice A la c) rfl (by kernel_rfl) (by kernel_rfl) (by kernel_rfl) (fun _ _ _ h => h) (Or.inl ⟨by rfl, fun W hW => ?y7⟩) hs0 ?_
      case y7 => go_simp
      try dsimp only [Act.put]
      try simp only [List.setIfInBounds_toArray, List.set_cons_zero, List.set_cons_succ]
      refine wpAnyH_take (i := 8) (oi := { dst := some 47, op := Op.fieldAddr 123 (Operand.tmp 7) 2, type := 0, pos := "common.go:44", after := #[], guard := none }) (v := .pointer (some ⟨g, 2, none⟩)) rfl (by kernel_rfl) (by kernel_rfl) (by kernel_rfl) (fun _ _ _ h => h) (Or.inl ⟨by rfl, fun W hW => ?y8⟩) hs0 ?_
      case y8 => go_simp
      try dsimp only [Act.put]
      try simp only [List.setIfInBounds_toArray, List.set_cons_zero, List.set_cons_succ]
      refine wpAnyH_take (i := 9) (oi := { dst := some 48, op := Op.load 74 (Operand.tmp 47), type := 74, pos := "common.go:44", after := #[{ on := 8, ground := Ground.data }], guard := none }) (v := .int .u64 ((u1 : Nat) : Int)) rfl (by kernel_rfl) (by kernel_rfl) (by kernel_rfl) (fun _ _ _ h => h) (Or.inl ⟨by rfl, fun W hW => by have hcl : W.cell? ⟨g, 2, none⟩ = some (.int .u64 ((u1 : Nat) : Int)) := (Blk.cell hW 2).trans rfl; go_simp⟩) hs0 ?_
      try dsimp only [Act.put]
      try simp only [List.setIfInBounds_toArray, List.set_cons_zero, List.set_cons_succ]
      refine wpAnyH_take (i := 10) (oi := { dst := some 49, op := Op.move (Operand.tmp 1), type := 22, pos := "common.go:44", after := #[], guard := none }) (v := .slice A2 lb c2) rfl (by kernel_rfl) (by kernel_rfl) (by kernel_rfl) (fun _ _ _ h => h) (Or.inl ⟨by rfl, fun W hW => ?y10⟩) hs0 ?_
      case y10 => go_simp
      try dsimp only [Act.put]
      try simp only [List.setIfInBounds_toArray, List.set_cons_zero, List.set_cons_succ]
      refine wpAnyH_take (i := 11) (oi := { dst := some 50, op := Op.fieldAddr 123 (Operand.tmp 7) 3, type := 0, pos := "common.go:44", after := #[], guard := none }) (v := .pointer (some ⟨g, 3, none⟩)) rfl (by kernel_rfl) (by kernel_rfl) (by kernel_rfl) (fun _ _ _ h => h) (Or.inl ⟨by rfl, fun W hW => ?y11⟩) hs0 ?_
      case y11 => go_simp
      try dsimp only [Act.put]
      try simp only [List.setIfInBounds_toArray, List.set_cons_zero, List.set_cons_succ]
      refine wpAnyH_take (i := 12) (oi := { dst := some 51, op := Op.load 74 (Operand.tmp 50), type := 74, pos := "common.go:44", after := #[{ on := 11, ground := Ground.data }], guard := none }) (v := .int .u64 ((v1 : Nat) : Int)) rfl (by kernel_rfl) (by kernel_rfl) (by kernel_rfl) (fun _ _ _ h => h) (Or.inl ⟨by rfl, fun W hW => by have hcl : W.cell? ⟨g, 3, none⟩ = some (.int .u64 ((v1 : Nat) : Int)) := (Blk.cell hW 3).trans rfl; go_simp⟩) hs0 ?_
      try dsimp only [Act.put]
      try simp only [List.setIfInBounds_toArray, List.set_cons_zero, List.set_cons_succ]
      refine wpAnyH_ready (rs := [6]) (by kernel_rfl) (by simp) ?_
      refine AllReadyH.cons (o := { dst := some 45, op := Op.call { callee := Callee.value (Operand.func 103), args := #[Operand.tmp 39, Operand.tmp 41, Operand.tmp 42, Operand.tmp 44], argTypes := #[22, 74, 22, 74] }, type := 22, pos := "common.go:44", after := #[{ on := 0, ground := Ground.data }, { on := 2, ground := Ground.data }, { on := 3, ground := Ground.data }, { on := 5, ground := Ground.data }], guard := none }) rfl (fun K hK => ?_) AllReadyH.nil
      rw [if_pos (by rfl)]
      go_simp
      refine (HC1.out _ B0.out).mono ?_; rintro e w13 ⟨v14, rfl, hs, hb⟩
      have B16 := Lib.hid (B0.out.trans (hb.mono B0.out.size))
      have hs17 := Blk.below hs0 hb (Blk.lt hs0)
      have S15 := Lib.hid hs
      clear hs hb
      go_wp2_with fail
      refine hK.out _ _ hs17 (fun _ => ?_)
      clear hK K
      try dsimp only [Act.put]
      try simp only [List.setIfInBounds_toArray, List.set_cons_zero, List.set_cons_succ]
      refine wpAnyH_ready (rs := [13]) (by kernel_rfl) (by simp) ?_
      refine AllReadyH.cons (o := { dst := some 52, op := Op.call { callee := Callee.value (Operand.func 103), args := #[Operand.tmp 46, Operand.tmp 48, Operand.tmp 49, Operand.tmp 51], argTypes := #[22, 74, 22, 74] }, type := 22, pos := "common.go:44", after := #[{ on := 7, ground := Ground.data }, { on := 9, ground := Ground.data }, { on := 10, ground := Ground.data }, { on := 12, ground := Ground.data }, { on := 6, ground := Ground.chain }], guard := none }) rfl (fun K hK => ?_) AllReadyH.nil
      rw [if_pos (by rfl)]
      go_simp
      refine (HC2.out _ B16.out).mono ?_; rintro e w18 ⟨v19, rfl, hs, hb⟩
      have B21 := Lib.hid (B16.out.trans (hb.mono B16.out.size))
      have hs22 := Blk.below hs17 hb (Blk.lt hs17)
      have S23 := Lib.hid (S15.out.below hb)
      have S20 := Lib.hid hs
      clear hs hb
      go_wp2_with fail
      refine hK.out _ _ hs22 (fun _ => ?_)
      clear hK K
      try dsimp only [Act.put]
      try simp only [List.setIfInBounds_toArray, List.set_cons_zero, List.set_cons_succ]
      refine wpAnyH_take (i := 14) (oi := { dst := some 4, op := Op.assign (Operand.tmp 45), type := 22, pos := "common.go:44", after := #[{ on := 6, ground := Ground.data }, { on := 13, ground := Ground.chain }, { on := 0, ground := Ground.phase }, { on := 1, ground := Ground.phase }, { on := 2, ground := Ground.phase }, { on := 3, ground := Ground.phase }, { on := 4, ground := Ground.phase }, { on := 5, ground := Ground.phase }, { on := 6, ground := Ground.phase }, { on := 7, ground := Ground.textOnly Departure.lateStores }, { on := 8, ground := Ground.textOnly Departure.lateStores }, { on := 9, ground := Ground.textOnly Departure.lateStores }, { on := 10, ground := Ground.textOnly Departure.lateStores }, { on := 11, ground := Ground.textOnly Departure.lateStores }, { on := 12, ground := Ground.textOnly Departure.lateStores }, { on := 13, ground := Ground.textOnly Departure.lateStoresUnsure }], guard := none }) (v := v14) rfl (by kernel_rfl) (by kernel_rfl) (by kernel_rfl) (fun _ _ _ h => h) (Or.inl ⟨by rfl, fun W hW => ?y24⟩) hs22 ?_
      case y24 => go_simp
      try dsimp only [Act.put]
      try simp only [List.setIfInBounds_toArray, List.set_cons_zero, List.set_cons_succ]
      refine wpAnyH_take (i := 15) (oi := { dst := some 5, op := Op.assign (Operand.tmp 52), type := 22, pos := "common.go:44", after := #[{ on := 13, ground := Ground.data }, { on := 14, ground := Ground.chain }, { on := 0, ground := Ground.phase }, { on := 1, ground := Ground.phase }, { on := 2, ground := Ground.phase }, { on := 3, ground := Ground.phase }, { on := 4, ground := Ground.phase }, { on := 5, ground := Ground.phase }, { on := 6, ground := Ground.phase }, { on := 7, ground := Ground.phase }, { on := 8, ground := Ground.phase }, { on := 9, ground := Ground.phase }, { on := 10, ground := Ground.phase }, { on := 11, ground := Ground.phase }, { on := 12, ground := Ground.phase }, { on := 13, ground := Ground.phase }, { on := 14, ground := Ground.phase }], guard := none }) (v := v19) rfl (by kernel_rfl) (by kernel_rfl) (by kernel_rfl) (fun _ _ _ h => h) (Or.inl ⟨by rfl, fun W hW => ?y25⟩) hs22 ?_
      case y25 => go_simp
      try dsimp only [Act.put]
      try simp only [List.setIfInBounds_toArray, List.set_cons_zero, List.set_cons_succ]
      refine wpAnyH_done (by kernel_rfl) ?_ _
      try dsimp only [Act.put]
      try simp only [List.setIfInBounds_toArray, List.set_cons_zero, List.set_cons_succ]
      go_wp2_with fail
      go_ret2
      exact HFIN.out _ _ _ S23.out S20.out B21.out
    | false =>
      obtain ⟨g1, g2, g3, g4, g5⟩ := HMK.out.2 rfl
      have HC1 := Lib.hid (fun W (h : Below w.heap.size w W) => HLt.out W u0 v0 h b1 b2 g1 g3)
      have HC2 := Lib.hid (fun W (h : Below w.heap.size w W) => HLt2.out W v1 u1 h b4 b3 g2 (by omega))
      have HFIN := Lib.hid (show ∀ (z1 z2 : Value) (W : World), Sl W z1 (lim (u0 * num a - v0 * num b)) → Sl W z2 (lim (v1 * num b - u1 * num a)) → Below w.heap.size w W → CloP w (num a) (num b) (.returned (.tuple #[z1, z2])) W from
        fun z1 z2 W h1 h2 h3 => ⟨z1, z2, _, _, rfl, h1, h2, g5, meas_lt HAB.out g3 g4, by omega, by omega, by omega, h3⟩)
      clear g1 g2 g3 g4 g5 HMK HLt HLt2
      go_upto_region 10 with (fail)
      refine wp_region_held (S := fun W => Blk W g 123 (SC u0 v0 u1 v1 false)) (by kernel_rfl) ?_
      change wpAnyH _ _ _ _ _ _ _ _ (World.drew W2)
      have hs0 : Blk (World.drew W2) g 123 (SC u0 v0 u1 v1 false) := HBK.out
      have B0 : Hid (Below w.heap.size w (World.drew W2)) := Lib.hid (below_drewN HBL.out 1)
      generalize World.drew W2 = Wd at hs0 B0 ⊢
      refine wpAnyH_take (i := 0) (oi := { dst := some 53, op := Op.move (Operand.tmp 0), type := 22, pos := "common.go:46", after := #[], guard := none }) (v := .slice A la c) rfl (by kernel_rfl) (by kernel_rfl) (by kernel_rfl) (fun _ _ _ h => h) (Or.inl ⟨by rfl, fun W hW => ?y1⟩) hs0 ?_
      case y1 => go_simp
      try dsimp only [Act.put]
      try simp only [List.setIfInBounds_toArray, List.set_cons_zero, List.set_cons_succ]
      refine wpAnyH_take (i := 1) (oi := { dst := some 54, op := Op.fieldAddr 123 (Operand.tmp 7) 0, type := 0, pos := "common.go:46", after := #[], guard := none }) (v := .pointer (some ⟨g, 0, none⟩)) rfl (by kernel_rfl) (by kernel_rfl) (by kernel_rfl) (fun _ _ _ h => h) (Or.inl ⟨by rfl, fun W hW => ?y2⟩) hs0 ?_
      case y2 => go_simp
      try dsimp only [Act.put]
      try simp only [List.setIfInBounds_toArray, List.set_cons_zero, List.set_cons_succ]
      refine wpAnyH_take (i := 2) (oi := { dst := some 55, op := Op.load 74 (Operand.tmp 54), type := 74, pos := "common.go:46", after := #[{ on := 1, ground := Ground.data }], guard := none }) (v := .int .u64 ((u0 : Nat) : Int)) rfl (by kernel_rfl) (by kernel_rfl) (by kernel_rfl) (fun _ _ _ h => h) (Or.inl ⟨by rfl, fun W hW => by have hcl : W.cell? ⟨g, 0, none⟩ = some (.int .u64 ((u0 : Nat) : Int)) := (Blk.cell hW 0).trans rfl; go_simp⟩) hs0 ?_
      try dsimp only [Act.put]
      try simp only [List.setIfInBounds_toArray, List.set_cons_zero, List.set_cons_succ]
      refine wpAnyH_take (i := 3) (oi := { dst := some 56, op := Op.move (Operand.tmp 1), type := 22, pos := "common.go:46", after := #[], guard := none }) (v := .slice A2 lb c2) rfl (by kernel_rfl) (by kernel_rfl) (by kernel_rfl) (fun _ _ _ h => h) (Or.inl ⟨by rfl, fun W hW => ?y4⟩) hs0 ?_
      case y4 => go_simp
      try dsimp only [Act.put]
      try simp only [List.setIfInBounds_toArray, List.set_cons_zero, List.set_cons_succ]
      refine wpAnyH_take (i := 4) (oi := { dst := some 57, op := Op.fieldAddr 123 (Operand.tmp 7) 1, type := 0, pos := "common.go:46", after := #[], guard := none }) (v := .pointer (some ⟨g, 1, none⟩)) rfl (by kernel_rfl) (by kernel_rfl) (by kernel_rfl) (fun _ _ _ h => h) (Or.inl ⟨by rfl, fun W hW => ?y5⟩) hs0 ?_
      case y5 => go_simp
      try dsimp only [Act.put]
      try simp only [List.setIfInBounds_toArray, List.set_cons_zero, List.set_cons_succ]
      refine wpAnyH_take (i := 5) (oi := { dst := some 58, op := Op.load 74 (Operand.tmp 57), type := 74, pos := "common.go:46", after := #[{ on := 4, ground := Ground.data }], guard := none }) (v := .int .u64 ((v0 : Nat) : Int)) rfl (by kernel_rfl) (by kernel_rfl) (by kernel_rfl) (fun _ _ _ h => h) (Or.inl ⟨by rfl, fun W hW => by have hcl : W.cell? ⟨g, 1, none⟩ = some (.int .u64 ((v0 : Nat) : Int)) := (Blk.cell hW 1).trans rfl; go_simp⟩) hs0 ?_
      try dsimp only [Act.put]
      try simp only [List.setIfInBounds_toArray, List.set_cons_zero, List.set_cons_succ]
      refine wpAnyH_take (i := 7) (oi := { dst := some 60, op := Op.move (Operand.tmp 1), type := 22, pos := "common.go:46", after := #[], guard := none }) (v := .slice A2 lb c2) rfl (by kernel_rfl) (by kernel_rfl) (by kernel_rfl) (fun _ _ _ h => h) (Or.inl ⟨by rfl, fun W hW => ?y7⟩) hs0 ?_
      case y7 => go_simp
      try dsimp only [Act.put]
      try simp only [List.setIfInBounds_toArray, List.set_cons_zero, List.set_cons_succ]
      refine wpAnyH_take (i := 8) (oi := { dst := some 61, op := Op.fieldAddr 123 (Operand.tmp 7) 3, type := 0, pos := "common.go:46", after := #[], guard := none }) (v := .pointer (some ⟨g, 3, none⟩)) rfl (by kernel_rfl) (by kernel_rfl) (by kernel_rfl) (fun _ _ _ h => h) (Or.inl ⟨by rfl, fun W hW => ?y8⟩) hs0 ?_
      case y8 => go_simp
      try dsimp only [Act.put]
      try simp only [List.setIfInBounds_toArray, List.set_cons_zero, List.set_cons_succ]
      refine wpAnyH_take (i := 9) (oi := { dst := some 62, op := Op.load 74 (Operand.tmp 61), type := 74, pos := "common.go:46", after := #[{ on := 8, ground := Ground.data }], guard := none }) (v := .int .u64 ((v1 : Nat) : Int)) rfl (by kernel_rfl) (by kernel_rfl) (by kernel_rfl) (fun _ _ _ h => h) (Or.inl ⟨by rfl, fun W hW => by have hcl : W.cell? ⟨g, 3, none⟩ = some (.int .u64 ((v1 : Nat) : Int)) := (Blk.cell hW 3).trans rfl; go_simp⟩) hs0 ?_
      try dsimp only [Act.put]
      try simp only [List.setIfInBounds_toArray, List.set_cons_zero, List.set_cons_succ]
      refine wpAnyH_take (i := 10) (oi := { dst := some 63, op := Op.move (Operand.tmp 0), type := 22, pos := "common.go:46", after := #[], guard := none }) (v := .slice A la c) rfl (by kernel_rfl) (by kernel_rfl) (by kernel_rfl) (fun _ _ _ h => h) (Or.inl ⟨by rfl, fun W hW => ?y10⟩) hs0 ?_
      case y10 => go_simp
      try dsimp only [Act.put]
      try simp only [List.setIfInBounds_toArray, List.set_cons_zero, List.set_cons_succ]
      refine wpAnyH_take (i := 11) (oi := { dst := some 64, op := Op.fieldAddr 123 (Operand.tmp 7) 2, type := 0, pos := "common.go:46", after := #[], guard := none }) (v := .pointer (some ⟨g, 2, none⟩)) rfl (by kernel_rfl) (by kernel_rfl) (by kernel_rfl) (fun _ _ _ h => h) (Or.inl ⟨by rfl, fun W hW => ?y11⟩) hs0 ?_
      case y11 => go_simp
      try dsimp only [Act.put]
      try simp only [List.setIfInBounds_toArray, List.set_cons_zero, List.set_cons_succ]
      refine wpAnyH_take (i := 12) (oi := { dst := some 65, op := Op.load 74 (Operand.tmp 64), type := 74, pos := "common.go:46", after := #[{ on := 11, ground := Ground.data }], guard := none }) (v := .int .u64 ((u1 : Nat) : Int)) rfl (by kernel_rfl) (by kernel_rfl) (by kernel_rfl) (fun _ _ _ h => h) (Or.inl ⟨by rfl, fun W hW => by have hcl : W.cell? ⟨g, 2, none⟩ = some (.int .u64 ((u1 : Nat) : Int)) := (Blk.cell hW 2).trans rfl; go_simp⟩) hs0 ?_
      try dsimp only [Act.put]
      try simp only [List.setIfInBounds_toArray, List.set_cons_zero, List.set_cons_succ]
      refine wpAnyH_ready (rs := [6]) (by kernel_rfl) (by simp) ?_
      refine AllReadyH.cons (o := { dst := some 59, op := Op.call { callee := Callee.value (Operand.func 103), args := #[Operand.tmp 53, Operand.tmp 55, Operand.tmp 56, Operand.tmp 58], argTypes := #[22, 74, 22, 74] }, type := 22, pos := "common.go:46", after := #[{ on := 0, ground := Ground.data }, { on := 2, ground := Ground.data }, { on := 3, ground := Ground.data }, { on := 5, ground := Ground.data }], guard := none }) rfl (fun K hK => ?_) AllReadyH.nil
      rw [if_pos (by rfl)]
      go_simp
      refine (HC1.out _ B0.out).mono ?_; rintro e w13 ⟨v14, rfl, hs, hb⟩
      have B16 := Lib.hid (B0.out.trans (hb.mono B0.out.size))
      have hs17 := Blk.below hs0 hb (Blk.lt hs0)
      have S15 := Lib.hid hs
      clear hs hb
      go_wp2_with fail
      refine hK.out _ _ hs17 (fun _ => ?_)
      clear hK K
      try dsimp only [Act.put]
      try simp only [List.setIfInBounds_toArray, List.set_cons_zero, List.set_cons_succ]
      refine wpAnyH_ready (rs := [13]) (by kernel_rfl) (by simp) ?_
      refine AllReadyH.cons (o := { dst := some 66, op := Op.call { callee := Callee.value (Operand.func 103), args := #[Operand.tmp 60, Operand.tmp 62, Operand.tmp 63, Operand.tmp 65], argTypes := #[22, 74, 22, 74] }, type := 22, pos := "common.go:46", after := #[{ on := 7, ground := Ground.data }, { on := 9, ground := Ground.data }, { on := 10, ground := Ground.data }, { on := 12, ground := Ground.data }, { on := 6, ground := Ground.chain }], guard := none }) rfl (fun K hK => ?_) AllReadyH.nil
      rw [if_pos (by rfl)]
      go_simp
      refine (HC2.out _ B16.out).mono ?_; rintro e w18 ⟨v19, rfl, hs, hb⟩
      have B21 := Lib.hid (B16.out.trans (hb.mono B16.out.size))
      have hs22 := Blk.below hs17 hb (Blk.lt hs17)
      have S23 := Lib.hid (S15.out.below hb)
      have S20 := Lib.hid hs
      clear hs hb
      go_wp2_with fail
      refine hK.out _ _ hs22 (fun _ => ?_)
      clear hK K
      try dsimp only [Act.put]
      try simp only [List.setIfInBounds_toArray, List.set_cons_zero, List.set_cons_succ]
      refine wpAnyH_take (i := 14) (oi := { dst := some 4, op := Op.assign (Operand.tmp 59), type := 22, pos := "common.go:46", after := #[{ on := 6, ground := Ground.data }, { on := 13, ground := Ground.chain }, { on := 0, ground := Ground.phase }, { on := 1, ground := Ground.phase }, { on := 2, ground := Ground.phase }, { on := 3, ground := Ground.phase }, { on := 4, ground := Ground.phase }, { on := 5, ground := Ground.phase }, { on := 6, ground := Ground.phase }, { on := 7, ground := Ground.textOnly Departure.lateStores }, { on := 8, ground := Ground.textOnly Departure.lateStores }, { on := 9, ground := Ground.textOnly Departure.lateStores }, { on := 10, ground := Ground.textOnly Departure.lateStores }, { on := 11, ground := Ground.textOnly Departure.lateStores }, { on := 12, ground := Ground.textOnly Departure.lateStores }, { on := 13, ground := Ground.textOnly Departure.lateStoresUnsure }], guard := none }) (v := v14) rfl (by kernel_rfl) (by kernel_rfl) (by kernel_rfl) (fun _ _ _ h => h) (Or.inl ⟨by rfl, fun W hW => ?y24⟩) hs22 ?_
      case y24 => go_simp
      try dsimp only [Act.put]
      try simp only [List.setIfInBounds_toArray, List.set_cons_zero, List.set_cons_succ]
      refine wpAnyH_take (i := 15) (oi := { dst := some 5, op := Op.assign (Operand.tmp 66), type := 22, pos := "common.go:46", after := #[{ on := 13, ground := Ground.data }, { on := 14, ground := Ground.chain }, { on := 0, ground := Ground.phase }, { on := 1, ground := Ground.phase }, { on := 2, ground := Ground.phase }, { on := 3, ground := Ground.phase }, { on := 4, ground := Ground.phase }, { on := 5, ground := Ground.phase }, { on := 6, ground := Ground.phase }, { on := 7, ground := Ground.phase }, { on := 8, ground := Ground.phase }, { on := 9, ground := Ground.phase }, { on := 10, ground := Ground.phase }, { on := 11, ground := Ground.phase }, { on := 12, ground := Ground.phase }, { on := 13, ground := Ground.phase }, { on := 14, ground := Ground.phase }], guard := none }) (v := v19) rfl (by kernel_rfl) (by kernel_rfl) (by kernel_rfl) (fun _ _ _ h => h) (Or.inl ⟨by rfl, fun W hW => ?y25⟩) hs22 ?_
      case y25 => go_simp
      try dsimp only [Act.put]
      try simp only [List.setIfInBounds_toArray, List.set_cons_zero, List.set_cons_succ]
      refine wpAnyH_done (by kernel_rfl) ?_ _
      try dsimp only [Act.put]
      try simp only [List.setIfInBounds_toArray, List.set_cons_zero, List.set_cons_succ]
      go_wp2_with fail
      go_ret2
      exact HFIN.out _ _ _ S23.out S20.out B21.out
end Go.Proofs.YtbfhilbagojdnaaGreat
