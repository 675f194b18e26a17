/-
  The steps of the laws' sanity: the calls at its fixed inputs.
  No condition.
-/
import Derived.Test.YtooanlmmplbnoaaForm
namespace Go.Proofs.Ytooanlmmplbnoaa
open Go.RowKit Wr
set_option linter.unusedVariables false

theorem d1 : decInt [130, 1, 0, 9] = (256, 3, 0) := by decide +kernel
theorem d2 : decInt [130, 1] = (0, 0, 3) := by decide +kernel
theorem d3 : decInt [129, 0] = (0, 0, 2) := by decide +kernel
theorem d4 : decStr [129, 2, 97, 98, 7] = ([97, 98], 4, 0) := by decide +kernel
theorem d5 : decInts [129, 2, 129, 1, 127] = ([1, -1], 5, 0) := by decide +kernel
theorem d7 : decStrs [129, 2, 128, 129, 1, 97, 5] = ([[], [97]], 6, 0) := by decide +kernel
theorem e1 : encStrs [[], [97]] = [129, 2, 128, 129, 1, 97] := by decide +kernel
theorem e2 : enc (-257) = [125, 254, 255] := by decide +kernel
theorem e3 : encStr [97, 98] = [129, 2, 97, 98] := by decide +kernel
theorem e4 : encInts [1, -1] = [129, 2, 129, 1, 127] := by decide +kernel
def dg0 : List UInt8 := [1, 2, 0, 0, 0, 0, 0, 0, 0, 0, 0, 0, 0, 0, 0, 0]
theorem e5 : encDigs [dg0] = [129, 1, 1, 2, 0, 0, 0, 0, 0, 0, 0, 0, 0, 0, 0, 0, 0, 0] := by decide +kernel
theorem d6 : decDigs [129, 1, 1, 2, 0, 0, 0, 0, 0, 0, 0, 0, 0, 0, 0, 0, 0, 0] = ([dg0], 18, 0) := by decide +kernel

theorem quietB {f : FuncId} {args : Array Value} {W : World} {o : Obj} (h : Calls Try.prog f args (W.alloc o) fun e w' => e = .returned (.bool true) ∧ ∃ q, w' = (W.alloc o).drewN q) : Calls Try.prog f args (W.alloc o) fun e w' => e = .returned (.bool true) ∧ Below W.heap.size W w' :=
  h.mono fun e w' ⟨he, q, hq⟩ => ⟨he, by subst hq; exact ⟨rfl, rfl, rfl, by show W.heap.size ≤ (W.alloc o).heap.size; simp, fun k hk => Below.heap_alloc W o k hk⟩⟩
theorem s1 (W : World) (H : Nat) (hH : W.heap.size = H) : Calls Try.prog 24 #[.slice (some ⟨H, 0, none⟩) 4 4] (W.alloc (.cells #[.int .u8 130, .int .u8 1, .int .u8 0, .int .u8 9] 5)) fun e w' => e = .returned (.tuple #[.int .i64 256, .int .i64 3, .int .i64 0]) ∧ (W.alloc (.cells #[.int .u8 130, .int .u8 1, .int .u8 0, .int .u8 9] 5)) = w' := by
  subst hH
  have h := getInt_any (some ⟨W.heap.size, 0, none⟩) [130, 1, 0, 9] 4 _ _ (rd_new W (B8 [130, 1, 0, 9]) 5) (by decide) (by decide)
  rw [d1] at h
  exact h
theorem s2 (W : World) (H : Nat) (hH : W.heap.size = H) : Calls Try.prog 24 #[.slice (some ⟨H, 0, none⟩) 2 2] (W.alloc (.cells #[.int .u8 130, .int .u8 1] 5)) fun e w' => e = .returned (.tuple #[.int .i64 0, .int .i64 0, .int .i64 3]) ∧ (W.alloc (.cells #[.int .u8 130, .int .u8 1] 5)) = w' := by
  subst hH
  have h := getInt_any (some ⟨W.heap.size, 0, none⟩) [130, 1] 2 _ _ (rd_new W (B8 [130, 1]) 5) (by decide) (by decide)
  rw [d2] at h
  exact h
theorem s3 (W : World) (H : Nat) (hH : W.heap.size = H) : Calls Try.prog 24 #[.slice (some ⟨H, 0, none⟩) 2 2] (W.alloc (.cells #[.int .u8 129, .int .u8 0] 5)) fun e w' => e = .returned (.tuple #[.int .i64 0, .int .i64 0, .int .i64 2]) ∧ (W.alloc (.cells #[.int .u8 129, .int .u8 0] 5)) = w' := by
  subst hH
  have h := getInt_any (some ⟨W.heap.size, 0, none⟩) [129, 0] 2 _ _ (rd_new W (B8 [129, 0]) 5) (by decide) (by decide)
  rw [d3] at h
  exact h
theorem s4 (W : World) (H : Nat) (hH : W.heap.size = H) : Calls Try.prog 26 #[.slice (some ⟨H, 0, none⟩) 5 5] (W.alloc (.cells #[.int .u8 129, .int .u8 2, .int .u8 97, .int .u8 98, .int .u8 7] 5)) fun e w' => e = .returned (.tuple #[.string ⟨#[97, 98]⟩, .int .i64 4, .int .i64 0]) ∧ (W.alloc (.cells #[.int .u8 129, .int .u8 2, .int .u8 97, .int .u8 98, .int .u8 7] 5)) = w' := by
  subst hH
  have h := getBytes_any (some ⟨W.heap.size, 0, none⟩) [129, 2, 97, 98, 7] 5 _ _ (rd_new W (B8 [129, 2, 97, 98, 7]) 5) (by decide) (by decide)
  rw [d4] at h
  exact h
theorem s5 (W : World) (H : Nat) (hH : W.heap.size = H) : Calls Try.prog 28 #[.slice (some ⟨H, 0, none⟩) 5 5] (W.alloc (.cells #[.int .u8 129, .int .u8 2, .int .u8 129, .int .u8 1, .int .u8 127] 5)) fun e w' => ∃ (A : Option Addr) (c : Nat), e = .returned (.tuple #[.slice A 2 c, .int .i64 5, .int .i64 0]) ∧ Rd w' w'.heap.size A (I64 [1, -1]) ∧ Below W.heap.size W w' := by
  subst hH
  have h := getInts_s (some ⟨W.heap.size, 0, none⟩) [129, 2, 129, 1, 127] 5 _ (rd_new W (B8 [129, 2, 129, 1, 127]) 5) (by decide) (by decide)
  rw [d5] at h
  exact h.mono fun e w' ⟨A, c, he, hr, hb⟩ => ⟨A, c, he, hr, ((Below.refl _ _).alloc (Nat.le_refl _) _).trans (hb.mono (by simp))⟩
theorem s7 (W : World) (H : Nat) (hH : W.heap.size = H) : Calls Try.prog 31 #[.slice (some ⟨H, 0, none⟩) 7 7] (W.alloc (.cells #[.int .u8 129, .int .u8 2, .int .u8 128, .int .u8 129, .int .u8 1, .int .u8 97, .int .u8 5] 5)) fun e w' => ∃ (A : Option Addr) (c : Nat), e = .returned (.tuple #[.slice A 2 c, .int .i64 6, .int .i64 0]) ∧ Rd w' w'.heap.size A (Sb [[], [97]]) ∧ Below W.heap.size W w' := by
  subst hH
  have h := getStrings_s (some ⟨W.heap.size, 0, none⟩) [129, 2, 128, 129, 1, 97, 5] 7 _ (rd_new W (B8 [129, 2, 128, 129, 1, 97, 5]) 5) (by decide) (by decide)
  rw [d7] at h
  exact h.mono fun e w' ⟨A, c, he, hr, hb⟩ => ⟨A, c, he, hr, ((Below.refl _ _).alloc (Nat.le_refl _) _).trans (hb.mono (by simp))⟩
theorem s6 (W : World) (H : Nat) (hH : W.heap.size = H) : Calls Try.prog 22 #[.slice (some ⟨H, 0, none⟩) 1 1] (W.alloc (.cells #[.int .u8 1, .int .u8 2, .int .u8 0, .int .u8 0, .int .u8 0, .int .u8 0, .int .u8 0, .int .u8 0, .int .u8 0, .int .u8 0, .int .u8 0, .int .u8 0, .int .u8 0, .int .u8 0, .int .u8 0, .int .u8 0] 57)) fun e w' => ∃ (A : Option Addr) (c : Nat), e = .returned (.slice A 18 c) ∧ 18 ≤ c ∧ Rd w' w'.heap.size A (B8 (encDigs [dg0])) ∧ Below W.heap.size W w' := by
  subst hH
  have h := digests_s (some ⟨W.heap.size, 0, none⟩) [dg0] 1 _ (rd_new W (Dg [dg0]) 57) (by decide) (by decide) (by intro x hx; simp at hx; subst hx; rfl)
  have hl : (encDigs [dg0]).length = 18 := by rw [e5]; rfl
  rw [hl] at h
  exact h.mono fun e w' ⟨A, c, he, hc, _, hr, hb⟩ => ⟨A, c, he, hc, hr, ((Below.refl _ _).alloc (Nat.le_refl _) _).trans (hb.mono (by simp))⟩
theorem s6b (A : Option Addr) (c : Nat) (W : World) (hc : 18 ≤ c) (hr : Rd W W.heap.size A (B8 (encDigs [dg0]))) : Calls Try.prog 34 #[.slice A 18 c] W fun e w' => ∃ (A : Option Addr) (c : Nat), e = .returned (.tuple #[.slice A 1 c, .int .i64 18, .int .i64 0]) ∧ Rd w' w'.heap.size A (Dg [dg0]) ∧ Below W.heap.size W w' := by
  rw [e5] at hr
  have h := getDigests_s A _ c W hr hc (by decide)
  rw [d6] at h
  exact h
theorem s8 (A : Option Addr) (c : Nat) (W : World) (H : Nat) (hH : W.heap.size = H) (hr : Rd W W.heap.size A (Sb [[], [97]])) : Calls Try.prog 33 #[.slice A 2 c, .slice (some ⟨H, 0, none⟩) 2 2] (W.alloc (.cells #[.string ⟨#[]⟩, .string ⟨#[97]⟩] 9)) fun e w' => e = .returned (.bool true) ∧ Below W.heap.size W w' := by
  subst hH
  exact quietB <| sameTexts_any A (some ⟨W.heap.size, 0, none⟩) [[], [97]] c 2 _ _ ((hr.below ((Below.refl _ _).alloc (Nat.le_refl _) _)).more (by simp)) (rd_new W (Sb [[], [97]]) 9) (by decide)
theorem s9 (W : World) (H : Nat) (hH : W.heap.size = H) : Calls Try.prog 20 #[.slice (some ⟨H, 0, none⟩) 2 2] (W.alloc (.cells #[.string ⟨#[]⟩, .string ⟨#[97]⟩] 9)) fun e w' => ∃ (A : Option Addr) (c : Nat), e = .returned (.slice A 6 c) ∧ Rd w' w'.heap.size A (B8 [129, 2, 128, 129, 1, 97]) ∧ Below W.heap.size W w' := by
  subst hH
  have hb : bs [⟨#[]⟩, ⟨#[97]⟩] = [[], [97]] := rfl
  have h := strings_s (some ⟨W.heap.size, 0, none⟩) [⟨#[]⟩, ⟨#[97]⟩] 2 _ (rd_new W (St [⟨#[]⟩, ⟨#[97]⟩]) 9) (by decide) (by decide) (by rw [hb, e1]; decide) (by intro x hx; simp at hx; rcases hx with rfl | rfl <;> decide)
  rw [hb, e1] at h
  exact h.mono fun e w' ⟨A, c, he, hc, _, hr, hb⟩ => ⟨A, c, he, hr, ((Below.refl _ _).alloc (Nat.le_refl _) _).trans (hb.mono (by simp))⟩
/-- Same, the second slice new. -/
theorem sm (A : Option Addr) (c n : Nat) (l : List UInt8) (W : World) (H : Nat) (hH : W.heap.size = H) (hn : n = l.length) (hn2 : l.length ≤ 100) (hr : Rd W W.heap.size A (B8 l)) : Calls Try.prog 13 #[.slice A n c, .slice (some ⟨H, 0, none⟩) n n] (W.alloc (.cells (B8 l).toArray 5)) fun e w' => e = .returned (.bool true) ∧ Below W.heap.size W w' := by
  subst hH hn
  have h := same_any A (some ⟨W.heap.size, 0, none⟩) l l c l.length _ _ ((hr.below ((Below.refl _ _).alloc (Nat.le_refl _) _)).more (by simp)) (rd_new W (B8 l) 5) (by omega) (by omega)
  refine quietB ?_
  simpa using h
theorem s10 (W : World) : Calls Try.prog 14 #[.int .i64 (-257)] W fun e w' => ∃ (A : Option Addr) (c : Nat), e = .returned (.slice A 3 c) ∧ Rd w' w'.heap.size A (B8 [125, 254, 255]) ∧ Below W.heap.size W w' := by
  have h := int_s (-257) W (by decide) (by decide)
  rw [e2] at h
  exact h.mono fun e w' ⟨A, c, he, _, _, hr, hb⟩ => ⟨A, c, he, hr, hb⟩
theorem s11 (W : World) : Calls Try.prog 16 #[.string ⟨#[97, 98]⟩] W fun e w' => ∃ (A : Option Addr) (c : Nat), e = .returned (.slice A 4 c) ∧ Rd w' w'.heap.size A (B8 [129, 2, 97, 98]) ∧ Below W.heap.size W w' := by
  have h := bytes_s ⟨#[97, 98]⟩ W (by decide)
  have hl : (⟨#[97, 98]⟩ : ByteArray).data.toList = [97, 98] := rfl
  rw [hl, e3] at h
  exact h.mono fun e w' ⟨A, c, he, _, _, hr, hb⟩ => ⟨A, c, he, hr, hb⟩
theorem s12 (W : World) (H : Nat) (hH : W.heap.size = H) : Calls Try.prog 18 #[.slice (some ⟨H, 0, none⟩) 2 2] (W.alloc (.cells #[.int .i64 1, .int .i64 (-1)] 3)) fun e w' => ∃ (A : Option Addr) (c : Nat), e = .returned (.slice A 5 c) ∧ Rd w' w'.heap.size A (B8 [129, 2, 129, 1, 127]) ∧ Below W.heap.size W w' := by
  subst hH
  have h := ints_s (some ⟨W.heap.size, 0, none⟩) [1, -1] 2 _ (rd_new W (I64 [1, -1]) 3) (by decide) (by decide) (by intro x hx; simp at hx; rcases hx with rfl | rfl <;> (unfold okInt; omega))
  rw [e4] at h
  exact h.mono fun e w' ⟨A, c, he, _, _, hr, hb⟩ => ⟨A, c, he, hr, ((Below.refl _ _).alloc (Nat.le_refl _) _).trans (hb.mono (by simp))⟩
theorem s13 (A : Option Addr) (c : Nat) (W : World) (H : Nat) (hH : W.heap.size = H) (hr : Rd W W.heap.size A (I64 [1, -1])) : Calls Try.prog 30 #[.slice A 2 c, .slice (some ⟨H, 0, none⟩) 2 2] (W.alloc (.cells #[.int .i64 1, .int .i64 (-1)] 3)) fun e w' => e = .returned (.bool true) ∧ Below W.heap.size W w' := by
  subst hH
  exact quietB <| sameInts_any A (some ⟨W.heap.size, 0, none⟩) [1, -1] c 2 _ _ ((hr.below ((Below.refl _ _).alloc (Nat.le_refl _) _)).more (by simp)) (rd_new W (I64 [1, -1]) 3) (by decide)
theorem s14 (A : Option Addr) (c : Nat) (W : World) (H : Nat) (hH : W.heap.size = H) (hr : Rd W W.heap.size A (Dg [dg0])) : Calls Try.prog 36 #[.slice A 1 c, .slice (some ⟨H, 0, none⟩) 1 1] (W.alloc (.cells #[.int .u8 1, .int .u8 2, .int .u8 0, .int .u8 0, .int .u8 0, .int .u8 0, .int .u8 0, .int .u8 0, .int .u8 0, .int .u8 0, .int .u8 0, .int .u8 0, .int .u8 0, .int .u8 0, .int .u8 0, .int .u8 0] 57)) fun e w' => e = .returned (.bool true) ∧ Below W.heap.size W w' := by
  subst hH
  exact quietB <| sameDigests_any A (some ⟨W.heap.size, 0, none⟩) [dg0] c 1 _ _ ((hr.below ((Below.refl _ _).alloc (Nat.le_refl _) _)).more (by simp)) (rd_new W (Dg [dg0]) 57) (by decide) (by intro x hx; simp at hx; subst hx; rfl)

end Go.Proofs.Ytooanlmmplbnoaa
