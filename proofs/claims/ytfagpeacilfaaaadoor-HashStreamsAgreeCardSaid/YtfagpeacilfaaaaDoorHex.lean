/-
  The contract of the law's hex.
  Condition: at most 2^20 bytes.
-/
import Derived.Test.YtfagpeacilfaaaaDoorText
import Derived.Lib.BufferRead
namespace Go.Proofs.YtfagpeacilfaaaaDoor
open Go.RowKit Wr Sh
set_option linter.unusedVariables false
theorem own_bytes2 {w : World} {B : Nat} {v : Value} {l : List UInt8} (h : w.ownsRow B 5 1 v l.length (B8 l)) :
    (convert 22 9 v).run Tryd.prog w = .ok (.string ⟨l.toArray⟩) w := by
  rcases own_bytes h with h1 | rfl
  · exact h1
  · obtain ⟨A, c, rfl, _, _, _⟩ := own_form h
    cases A with
    | none => exact Lib.run_convert_nil_bytes (P := Tryd.prog) w 22 9 5 c Tryd.underlying22 Tryd.underlying5 Tryd.underlying9
    | some a => exact run_convert_bytes_back (P := Tryd.prog) w 22 9 5 a c [] Tryd.underlying22 Tryd.underlying5 Tryd.underlying9 (fun j hj => by simp at hj)
/-- A hexadecimal digit. -/
def hexd (n : Nat) : UInt8 := [48, 49, 50, 51, 52, 53, 54, 55, 56, 57, 97, 98, 99, 100, 101, 102].getD n 0
def hexs (l : List UInt8) : List UInt8 := l.flatMap fun x => [hexd (x.toNat / 16), hexd (x.toNat % 16)]
theorem hexs_snoc (l : List UInt8) (x : UInt8) : hexs (l ++ [x]) = hexs l ++ [hexd (x.toNat / 16), hexd (x.toNat % 16)] := by simp [hexs]
theorem hexs_len (l : List UInt8) : (hexs l).length = 2 * l.length := by
  induction l with
  | nil => rfl
  | cons a l ih =>
    show (hexd _ :: hexd _ :: hexs l).length = _
    simp [ih]; omega
theorem hex_ix (n : Nat) (h : n < 16) : ∀ w : World, (Instr.index 9 (.string ⟨#[48, 49, 50, 51, 52, 53, 54, 55, 56, 57, 97, 98, 99, 100, 101, 102]⟩) (.int .u8 (n : Int))).run Tryd.prog w = .ok (.int .u8 ((hexd n).toNat : Int)) w := by
  intro w
  rw [run_index_string w 9 _ _ _ Tryd.underlying9, dif_pos ⟨by omega, by show (n : Int) < 16; omega⟩]
  have hn : n = 0 ∨ n = 1 ∨ n = 2 ∨ n = 3 ∨ n = 4 ∨ n = 5 ∨ n = 6 ∨ n = 7 ∨ n = 8 ∨ n = 9 ∨ n = 10 ∨ n = 11 ∨ n = 12 ∨ n = 13 ∨ n = 14 ∨ n = 15 := by omega
  rcases hn with rfl | rfl | rfl | rfl | rfl | rfl | rfl | rfl | rfl | rfl | rfl | rfl | rfl | rfl | rfl | rfl <;> rfl

set_option maxRecDepth 100000 in
set_option maxHeartbeats 4000000 in
theorem hex_any (s : ByteArray) (w : World) (hl : s.size ≤ 1048576) :
    Calls Tryd.prog 25 #[.string s] w fun e w' => e = .returned (.string ⟨(hexs s.data.toList).toArray⟩) ∧ Below w.heap.size w w' := by
  obtain ⟨i0, hi0, hz0, hz1, hz2⟩ := info_parts Tryd.info5
  go_enter Tryd.func25, Tryd.ntmps25
  go_wp2
  go_loopw [4, 5] (fun s4 s5 wr => ∃ i : Nat, i ≤ s.size ∧ s5 = .int .i64 i ∧ wr.ownsRow w.heap.size 5 1 s4 (2 * i) (B8 (hexs (s.data.toList.take i))) ∧ Below w.heap.size w wr)
    (fun _ s5 _ => s.size - (intOf s5).toNat)
  case atStart => exact ⟨0, by omega, rfl, World.ownsRow_nil _ _ _ _, Below.refl _ _⟩
  case round =>
  obtain ⟨i, hi, rfl, hown, hbel⟩ := hrel
  by_cases hlt : i < s.size
  · have hlt' : (i : Int) < (s.size : Int) := by omega
    obtain ⟨x, hx⟩ : ∃ x, x = s[i] := ⟨_, rfl⟩
    obtain ⟨q, hqd⟩ : ∃ q, q = x.toNat / 16 := ⟨_, rfl⟩
    obtain ⟨r, hrd⟩ : ∃ r, r = x.toNat % 16 := ⟨_, rfl⟩
    have hq := hex_ix q (by have := x.toNat_lt; omega)
    have hr := hex_ix r (by omega)
    obtain ⟨y1, hy1⟩ : ∃ y1, y1 = hexd q := ⟨_, rfl⟩
    obtain ⟨y2, hy2⟩ : ∃ y2, y2 = hexd r := ⟨_, rfl⟩
    rw [← hy1] at hq
    rw [← hy2] at hr
    have hix : ∀ W : World, (Instr.index 9 (.string s) (.int .i64 (i : Int))).run Tryd.prog W = .ok (.int .u8 (x.toNat : Int)) W := by
      intro W
      rw [run_index_string W 9 s _ _ Tryd.underlying9, dif_pos ⟨by omega, hlt'⟩]
      simp only [Int.toNat_natCast, hx]
    have hdiv : (x.toNat : Int) / 16 = (q : Int) := by omega
    have hdiv' : (x.toNat : Int).tdiv 16 = (q : Int) := by rw [Int.tdiv_eq_ediv_of_nonneg (by omega)]; omega
    have hwq : IntKind.u8.wrap (q : Int) = (q : Int) := by rw [IntKind.wrap_u8']; have := x.toNat_lt; omega
    have hmod : (x.toNat : Int) % 16 = (r : Int) := by omega
    have hmod' : (x.toNat : Int).tmod 16 = (r : Int) := by rw [Int.tmod_eq_emod_of_nonneg (by omega)]; omega
    have hstep : Hid (hexs (s.data.toList.take (i + 1)) = hexs (s.data.toList.take i) ++ [y1, y2]) := Lib.hid (by
      have e : s.data.toList.take (i + 1) = s.data.toList.take i ++ [x] := by
        rw [List.take_succ_eq_append_getElem (by rw [size_l]; exact hlt), hx]; rfl
      rw [e, hexs_snoc, hy1, hy2, hqd, hrd])
    clear hqd hrd hy1 hy2 hx
    go_wp2
    refine wp_region_any (by kernel_rfl) ?_
    change wpAny _ _ _ _ _ _ _ (World.drew wr)
    refine wpAny_take (i := 0) (oi := ⟨some 12, .move (.tmp 4), 22, "law.go:14", #[], none⟩) (v := u4) rfl (by kernel_rfl) (by kernel_rfl) (by kernel_rfl) (fun _ _ _ h => h) (Or.inl ⟨by rfl, fun W => ?y0⟩) ?_
    case y0 => go_simp
    try dsimp only [Act.put]
    try simp only [List.setIfInBounds_toArray, List.set_cons_zero, List.set_cons_succ]
    refine wpAny_take (i := 1) (oi := ⟨some 13, .move (.tmp 3), 9, "law.go:14", #[], none⟩) (v := .string ⟨#[48, 49, 50, 51, 52, 53, 54, 55, 56, 57, 97, 98, 99, 100, 101, 102]⟩) rfl (by kernel_rfl) (by kernel_rfl) (by kernel_rfl) (fun _ _ _ h => h) (Or.inl ⟨by rfl, fun W => ?y1⟩) ?_
    case y1 => go_simp
    try dsimp only [Act.put]
    try simp only [List.setIfInBounds_toArray, List.set_cons_zero, List.set_cons_succ]
    refine wpAny_take (i := 2) (oi := ⟨some 14, .move (.tmp 0), 9, "law.go:14", #[], none⟩) (v := .string s) rfl (by kernel_rfl) (by kernel_rfl) (by kernel_rfl) (fun _ _ _ h => h) (Or.inl ⟨by rfl, fun W => ?y2⟩) ?_
    case y2 => go_simp
    try dsimp only [Act.put]
    try simp only [List.setIfInBounds_toArray, List.set_cons_zero, List.set_cons_succ]
    refine wpAny_take (i := 3) (oi := ⟨some 15, .move (.tmp 5), 3, "law.go:14", #[], none⟩) (v := .int .i64 (i : Int)) rfl (by kernel_rfl) (by kernel_rfl) (by kernel_rfl) (fun _ _ _ h => h) (Or.inl ⟨by rfl, fun W => ?y3⟩) ?_
    case y3 => go_simp
    try dsimp only [Act.put]
    try simp only [List.setIfInBounds_toArray, List.set_cons_zero, List.set_cons_succ]
    refine wpAny_take (i := 4) (oi := ⟨some 16, .index 9 (.tmp 14) (.tmp 15), 5, "law.go:14", #[{ on := 2, ground := Ground.data }, { on := 3, ground := Ground.data }], none⟩) (v := .int .u8 (x.toNat : Int)) rfl (by kernel_rfl) (by kernel_rfl) (by kernel_rfl) (fun _ _ _ h => h) (Or.inl ⟨by rfl, fun W => ?y4⟩) ?_
    case y4 => go_simp
    try dsimp only [Act.put]
    try simp only [List.setIfInBounds_toArray, List.set_cons_zero, List.set_cons_succ]
    refine wpAny_take (i := 5) (oi := ⟨some 17, .binOp .quo 5 (.tmp 16) (.const (.int .u8 16)) 5, 5, "law.go:14", #[{ on := 4, ground := Ground.data }], none⟩) (v := .int .u8 (q : Int)) rfl (by kernel_rfl) (by kernel_rfl) (by kernel_rfl) (fun _ _ _ h => h) (Or.inl ⟨by rfl, fun W => ?y5⟩) ?_
    case y5 => go_simp
    try dsimp only [Act.put]
    try simp only [List.setIfInBounds_toArray, List.set_cons_zero, List.set_cons_succ]
    refine wpAny_take (i := 6) (oi := ⟨some 18, .index 9 (.tmp 13) (.tmp 17), 5, "law.go:14", #[{ on := 1, ground := Ground.data }, { on := 5, ground := Ground.data }], none⟩) (v := .int .u8 (y1.toNat : Int)) rfl (by kernel_rfl) (by kernel_rfl) (by kernel_rfl) (fun _ _ _ h => h) (Or.inl ⟨by rfl, fun W => ?y6⟩) ?_
    case y6 => go_simp
    try dsimp only [Act.put]
    try simp only [List.setIfInBounds_toArray, List.set_cons_zero, List.set_cons_succ]
    refine wpAny_take (i := 7) (oi := ⟨some 19, .move (.tmp 3), 9, "law.go:14", #[], none⟩) (v := .string ⟨#[48, 49, 50, 51, 52, 53, 54, 55, 56, 57, 97, 98, 99, 100, 101, 102]⟩) rfl (by kernel_rfl) (by kernel_rfl) (by kernel_rfl) (fun _ _ _ h => h) (Or.inl ⟨by rfl, fun W => ?y7⟩) ?_
    case y7 => go_simp
    try dsimp only [Act.put]
    try simp only [List.setIfInBounds_toArray, List.set_cons_zero, List.set_cons_succ]
    refine wpAny_take (i := 8) (oi := ⟨some 20, .move (.tmp 0), 9, "law.go:14", #[], none⟩) (v := .string s) rfl (by kernel_rfl) (by kernel_rfl) (by kernel_rfl) (fun _ _ _ h => h) (Or.inl ⟨by rfl, fun W => ?y8⟩) ?_
    case y8 => go_simp
    try dsimp only [Act.put]
    try simp only [List.setIfInBounds_toArray, List.set_cons_zero, List.set_cons_succ]
    refine wpAny_take (i := 9) (oi := ⟨some 21, .move (.tmp 5), 3, "law.go:14", #[], none⟩) (v := .int .i64 (i : Int)) rfl (by kernel_rfl) (by kernel_rfl) (by kernel_rfl) (fun _ _ _ h => h) (Or.inl ⟨by rfl, fun W => ?y9⟩) ?_
    case y9 => go_simp
    try dsimp only [Act.put]
    try simp only [List.setIfInBounds_toArray, List.set_cons_zero, List.set_cons_succ]
    refine wpAny_take (i := 10) (oi := ⟨some 22, .index 9 (.tmp 20) (.tmp 21), 5, "law.go:14", #[{ on := 8, ground := Ground.data }, { on := 9, ground := Ground.data }], none⟩) (v := .int .u8 (x.toNat : Int)) rfl (by kernel_rfl) (by kernel_rfl) (by kernel_rfl) (fun _ _ _ h => h) (Or.inl ⟨by rfl, fun W => ?y10⟩) ?_
    case y10 => go_simp
    try dsimp only [Act.put]
    try simp only [List.setIfInBounds_toArray, List.set_cons_zero, List.set_cons_succ]
    refine wpAny_take (i := 11) (oi := ⟨some 23, .binOp .rem 5 (.tmp 22) (.const (.int .u8 16)) 5, 5, "law.go:14", #[{ on := 10, ground := Ground.data }], none⟩) (v := .int .u8 (r : Int)) rfl (by kernel_rfl) (by kernel_rfl) (by kernel_rfl) (fun _ _ _ h => h) (Or.inl ⟨by rfl, fun W => ?y11⟩) ?_
    case y11 => go_simp
    try dsimp only [Act.put]
    try simp only [List.setIfInBounds_toArray, List.set_cons_zero, List.set_cons_succ]
    refine wpAny_take (i := 12) (oi := ⟨some 24, .index 9 (.tmp 19) (.tmp 23), 5, "law.go:14", #[{ on := 7, ground := Ground.data }, { on := 11, ground := Ground.data }], none⟩) (v := .int .u8 (y2.toNat : Int)) rfl (by kernel_rfl) (by kernel_rfl) (by kernel_rfl) (fun _ _ _ h => h) (Or.inl ⟨by rfl, fun W => ?y12⟩) ?_
    case y12 => go_simp
    try dsimp only [Act.put]
    try simp only [List.setIfInBounds_toArray, List.set_cons_zero, List.set_cons_succ]
    refine wpAny_ready (rs := [13]) (by kernel_rfl) (by simp) ?_
    refine AllReady.cons (o := ⟨some 25, .buildSlice 22 2 #[(0, .tmp 18), (1, .tmp 24)], 22, "law.go:14", #[{ on := 6, ground := Ground.data }, { on := 12, ground := Ground.data }], none⟩) rfl (fun K hK => ?_) AllReady.nil
    rw [if_pos (by rfl)]
    go_simp
    generalize hW1 : World.drew _ = W1
    have hown1 : W1.ownsRow w.heap.size 5 1 u4 (2 * i) (B8 (hexs (s.data.toList.take i))) := by rw [← hW1]; exact own_below (w := wr) hown ((Below.refl wr.heap.size wr).alloc (Nat.le_refl _) _).drew
    have hrd : Rd W1 W1.heap.size (some ⟨wr.heap.size, 0, none⟩) (B8 [y1, y2]) := by rw [← hW1]; exact rd_new wr (B8 [y1, y2]) 5
    have hbel1 : Below w.heap.size w W1 := by rw [← hW1]; exact (hbel.alloc hbel.size _).drew
    clear hW1
    refine hK _ _ ?_
    clear hK K
    try dsimp only [Act.put]
    try simp only [List.setIfInBounds_toArray, List.set_cons_zero, List.set_cons_succ]
    refine wpAny_ready (rs := [14]) (by kernel_rfl) (by simp) ?_
    refine AllReady.cons (o := ⟨some 26, .call { callee := .builtin .append, args := #[.tmp 12, .tmp 25], argTypes := #[22, 22] }, 22, "law.go:14", #[{ on := 0, ground := Ground.data }, { on := 13, ground := Ground.data }], none⟩) rfl (fun K hK => ?_) AllReady.nil
    rw [if_pos (by rfl)]
    refine wp_append_own _ (.tmp 12) (.tmp 25) 22 rfl w.heap.size 5 i0 (.int .u8 0) 1 1 Tryd.underlying22 hi0 hz0 hz1 hz2 rfl (by decide) u4 (2 * i) (B8 (hexs (s.data.toList.take i))) rfl hown1 ⟨wr.heap.size, 0, none⟩ 2 2 (B8 [y1, y2]) rfl rfl ?c1 (B8_one _) (by unfold maxLen; omega) (by omega) hbel1.size ?_
    case c1 =>
      obtain ⟨g, o, e, _, hc⟩ := hrd (by simp [B8])
      simp only [Option.some.injEq, Addr.mk.injEq, and_true] at e
      obtain ⟨rfl, rfl⟩ := e
      intro j u hu
      rw [Addr.add_lit]; exact hc j u hu
    intro v' w1 hown2 hgrow _
    have hbel2 : Below w.heap.size w w1 := hbel1.grown hgrow hbel1.size (fun q hq => (hown1.lt q hq).1)
    rw [← B8_append, ← hstep.out] at hown2
    clear hown hown1 hrd hbel1 hgrow
    refine hK _ _ ?_
    clear hK K
    try dsimp only [Act.put]
    try simp only [List.setIfInBounds_toArray, List.set_cons_zero, List.set_cons_succ]
    refine wpAny_take (i := 15) (oi := ⟨some 4, .assign (.tmp 26), 22, "law.go:14", #[{ on := 14, ground := Ground.data }, { on := 14, ground := Ground.chain }, { on := 0, ground := Ground.phase }, { on := 1, ground := Ground.phase }, { on := 2, ground := Ground.phase }, { on := 3, ground := Ground.phase }, { on := 4, ground := Ground.phase }, { on := 5, ground := Ground.phase }, { on := 6, ground := Ground.phase }, { on := 7, ground := Ground.phase }, { on := 8, ground := Ground.phase }, { on := 9, ground := Ground.phase }, { on := 10, ground := Ground.phase }, { on := 11, ground := Ground.phase }, { on := 12, ground := Ground.phase }, { on := 13, ground := Ground.phase }, { on := 14, ground := Ground.phase }], none⟩) (v := v') rfl (by kernel_rfl) (by kernel_rfl) (by kernel_rfl) (fun _ _ _ h => h) (Or.inl ⟨by rfl, fun W => ?y15⟩) ?_
    case y15 => go_simp
    refine wpAny_done (by kernel_rfl) ?_ _
    try dsimp only [Act.put]
    try simp only [List.setIfInBounds_toArray, List.set_cons_zero, List.set_cons_succ]
    go_wp2
    go_roundw
    case rel => exact ⟨i + 1, by omega, by go_num, hown2, hbel2⟩
    case measure => simp only [intOf]; omega
  · have hfull : s.data.toList.take i = s.data.toList := List.take_of_length_le (by rw [size_l]; omega)
    have hn : 2 * i = (hexs s.data.toList).length := by rw [hexs_len, size_l]; omega
    rw [hfull, hn] at hown
    have hcv : (convert 22 9 u4).run Tryd.prog wr = .ok (.string ⟨(hexs s.data.toList).toArray⟩) wr := by
      exact own_bytes2 hown
    clear hown hfull hn
    go_wp2
    go_ret
    exact ⟨rfl, hbel⟩
end Go.Proofs.YtfagpeacilfaaaaDoor
