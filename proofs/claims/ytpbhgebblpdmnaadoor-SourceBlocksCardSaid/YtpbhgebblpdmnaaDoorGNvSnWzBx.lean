/-
  Contracts and words of several parts of the program (Nv, Sn, Wz, Bx), one after the other.
  Conditions: those that each says.
-/
import Derived.Test.YtpbhgebblpdmnaaDoorSc
import Derived.Test.YtpbhgebblpdmnaaDoorProg
import Derived.Lib.Hide
import Derived.WalkLawsBesides
import Derived.Deep.DeepCutAuto
import Derived.Deep.CutBlock
import Derived.BigQuiet
import Derived.Laws.EntriesVeiled
import Derived.WalkSpells
import Derived.Deep.Slices
import Derived.Test.YtpbhgebblpdmnaaDoorZ
import Derived.Laws.Tables
namespace Go.Proofs.YtpbhgebblpdmnaaDoor
open Go.RowKit Wr Src
set_option linter.unusedVariables false
set_option maxRecDepth 100000
abbrev sv (t : Str) : Value := .string ⟨t.toArray⟩
abbrev iv (z : Int) : Value := .int .i64 z
abbrev nv (k : Nat) : Value := .int .i64 (k : Int)
theorem sv_size (t : Str) : (⟨t.toArray⟩ : ByteArray).size = t.length := rfl
def NC (k : Int) (t : Str) (z : Int) (v : Value) : List Value := [iv k, sv t, iv z, v]
def RdP (w : World) (P : Nat → Prop) (A : Option Addr) (xs : List Value) : Prop :=
 xs ≠ [] → ∃ g o, A = some ⟨g, o, none⟩ ∧ P g ∧ ∀ (j : Nat) u, xs[j]? = some u → w.cell? ⟨g, o + j, none⟩ = some u
structure Fine (k : Int) (t : Str) (z : Int) : Prop where
 k0 : -9223372036854775808 ≤ k
 k1 : k ≤ 9223372036854775807
 z0 : -9223372036854775808 ≤ z
 z1 : z ≤ 9223372036854775807
 t1 : t.length ≤ 8589934592
mutual
def NV (w : World) (P : Nat → Prop) : Nd → List Value → Prop
 | .mk k t z l, cs => ∃ A c xs, cs = NC k t z (.slice A l.length c) ∧ Fine k t z ∧ l.length ≤ 8589934592 ∧ l.length ≤ c ∧ (A = none → c = 0) ∧ RdP w P A xs ∧ NL w P l xs
def NL (w : World) (P : Nat → Prop) : List Nd → List Value → Prop
 | [], xs => xs = []
 | n :: l, xs => ∃ a b, xs = a ++ b ∧ NV w P n a ∧ NL w P l b
end
theorem RdP.keep {w w' : World} {P P' : Nat → Prop} {A : Option Addr} {xs : List Value} (h : RdP w P A xs) (hk : ∀ g, P g → g < w.heap.size → w'.heap[g]? = w.heap[g]? ∧ P' g) : RdP w' P' A xs := fun hn => by
 obtain ⟨g, o, e, hg, hc⟩ := h hn
 have hlt : g < w.heap.size := by
  cases xs with
  | nil => exact absurd rfl hn
  | cons u l => exact World.block_lt_of_cell? w ⟨g, o + 0, none⟩ (hc 0 u rfl)
 obtain ⟨h1, h2⟩ := hk g hg hlt
 exact ⟨g, o, e, h2, fun j u hu => (World.cell?_of_block (a := ⟨g, o + j, none⟩) h1).trans (hc j u hu)⟩
mutual
theorem NV.keep {w w' : World} {P P' : Nat → Prop} (hk : ∀ g, P g → g < w.heap.size → w'.heap[g]? = w.heap[g]? ∧ P' g) : ∀ (n : Nd) (cs : List Value), NV w P n cs → NV w' P' n cs
 | .mk k t z l, cs, h => by
  rw [NV] at h ⊢
  obtain ⟨A, c, xs, h1, h2, h3, h4, h5, h6, h7⟩ := h
  exact ⟨A, c, xs, h1, h2, h3, h4, h5, h6.keep hk, NL.keep hk l xs h7⟩
theorem NL.keep {w w' : World} {P P' : Nat → Prop} (hk : ∀ g, P g → g < w.heap.size → w'.heap[g]? = w.heap[g]? ∧ P' g) : ∀ (l : List Nd) (xs : List Value), NL w P l xs → NL w' P' l xs
 | [], xs, h => by rw [NL] at h ⊢; exact h
 | n :: l, xs, h => by
  rw [NL] at h ⊢
  obtain ⟨a, b, h1, h2, h3⟩ := h
  exact ⟨a, b, h1, NV.keep hk n a h2, NL.keep hk l b h3⟩
end
section
variable {w w' : World} {P P' : Nat → Prop}
theorem NV.form {k : Int} {t : Str} {z : Int} {l : List Nd} {cs : List Value} (h : NV w P (.mk k t z l) cs) : ∃ A c xs, cs = NC k t z (.slice A l.length c) ∧ Fine k t z ∧ l.length ≤ 8589934592 ∧ l.length ≤ c ∧ (A = none → c = 0) ∧ RdP w P A xs ∧ NL w P l xs := by
 rw [NV] at h; exact h
theorem NV.intro {k : Int} {t : Str} {z : Int} {l : List Nd} {A : Option Addr} {c : Nat} {xs : List Value} (h2 : Fine k t z) (h3 : l.length ≤ 8589934592) (h4 : l.length ≤ c) (h5 : A = none → c = 0) (h6 : RdP w P A xs) (h7 : NL w P l xs) : NV w P (.mk k t z l) (NC k t z (.slice A l.length c)) := by
 rw [NV]; exact ⟨A, c, xs, rfl, h2, h3, h4, h5, h6, h7⟩
theorem NV.leaf {k : Int} {t : Str} {z : Int} (h : Fine k t z) : NV w P (.mk k t z []) (NC k t z (.slice none 0 0)) :=
 NV.intro (l := []) (xs := []) h (by simp) (by simp) (fun _ => rfl) (fun h => absurd rfl h) (by rw [NL])
theorem NV.len {n : Nd} {cs : List Value} (h : NV w P n cs) : cs.length = 4 := by
 obtain ⟨k, t, z, l⟩ := n
 obtain ⟨A, c, xs, rfl, _⟩ := h.form
 rfl
theorem NL.nil : NL w P [] [] := by rw [NL]
theorem NL.cons {n : Nd} {l : List Nd} {a b : List Value} (h : NV w P n a) (h2 : NL w P l b) : NL w P (n :: l) (a ++ b) := by rw [NL]; exact ⟨a, b, rfl, h, h2⟩
theorem NL.inv {n : Nd} {l : List Nd} {xs : List Value} (h : NL w P (n :: l) xs) : ∃ a b, xs = a ++ b ∧ NV w P n a ∧ NL w P l b := by rw [NL] at h; exact h
theorem NL.inv0 {xs : List Value} (h : NL w P [] xs) : xs = [] := by rw [NL] at h; exact h
theorem NL.len : ∀ (l : List Nd) (xs : List Value), NL w P l xs → xs.length = l.length * 4
 | [], xs, h => by rw [h.inv0]; rfl
 | n :: l, xs, h => by
  obtain ⟨a, b, rfl, h1, h2⟩ := h.inv
  have := NL.len l b h2
  rw [List.length_append, h1.len, this, List.length_cons]; omega
theorem NL.app : ∀ (l m : List Nd) (a b : List Value), NL w P l a → NL w P m b → NL w P (l ++ m) (a ++ b)
 | [], m, a, b, h, h2 => by rw [h.inv0]; exact h2
 | n :: l, m, a, b, h, h2 => by
  obtain ⟨a1, a2, rfl, h3, h4⟩ := h.inv
  rw [List.append_assoc]
  exact NL.cons h3 (NL.app l m a2 b h4 h2)
theorem NL.one {n : Nd} {a : List Value} (h : NV w P n a) : NL w P [n] a := by
 have := NL.cons h (NL.nil (w := w) (P := P))
 rwa [List.append_nil] at this
theorem NL.get : ∀ (l : List Nd) (xs : List Value) (i : Nat) (n : Nd), NL w P l xs → l[i]? = some n → ∃ a, NV w P n a ∧ ∀ j, j < 4 → xs[i * 4 + j]? = a[j]?
 | [], xs, i, n, h, hi => by simp at hi
 | m :: l, xs, 0, n, h, hi => by
  simp only [List.getElem?_cons_zero, Option.some.injEq] at hi
  subst hi
  obtain ⟨a, b, rfl, h1, h2⟩ := h.inv
  exact ⟨a, h1, fun j hj => by rw [Nat.zero_mul, Nat.zero_add, List.getElem?_append_left (by rw [h1.len]; exact hj)]⟩
 | m :: l, xs, i + 1, n, h, hi => by
  simp only [List.getElem?_cons_succ] at hi
  obtain ⟨a, b, rfl, h1, h2⟩ := h.inv
  obtain ⟨c, h3, h4⟩ := NL.get l b i n h2 hi
  refine ⟨c, h3, fun j hj => ?_⟩
  rw [List.getElem?_append_right (by rw [h1.len]; omega), h1.len, show (i + 1) * 4 + j - 4 = i * 4 + j by omega]
  exact h4 j hj
theorem NL.drop : ∀ (i : Nat) (l : List Nd) (xs : List Value), NL w P l xs → NL w P (l.drop i) (xs.drop (i * 4))
 | 0, l, xs, h => by rw [Nat.zero_mul]; exact h
 | i + 1, [], xs, h => by rw [h.inv0]; simp; exact NL.nil
 | i + 1, n :: l, xs, h => by
  obtain ⟨a, b, rfl, h1, h2⟩ := h.inv
  have e : a.drop ((i + 1) * 4) = [] := List.drop_eq_nil_of_le (by rw [h1.len]; omega)
  rw [List.drop_succ_cons, List.drop_append, h1.len, e, List.nil_append, show (i + 1) * 4 - 4 = i * 4 by omega]
  exact NL.drop i l b h2
theorem NL.oneCell : ∀ (l : List Nd) (xs : List Value), NL w P l xs → ∀ u ∈ xs, u.oneCell' = true
 | [], xs, h, u, hu => by rw [h.inv0] at hu; simp at hu
 | n :: l, xs, h, u, hu => by
  obtain ⟨a, b, rfl, h1, h2⟩ := h.inv
  rcases List.mem_append.1 hu with hu | hu
  ·
   obtain ⟨k, t, z, m⟩ := n
   obtain ⟨A, c, ys, rfl, _⟩ := h1.form
   unfold NC iv sv at hu
   simp only [List.mem_cons, List.not_mem_nil, or_false] at hu
   rcases hu with rfl | rfl | rfl | rfl <;> rfl
  ·
   exact NL.oneCell l b h2 u hu
theorem NV.under {n : Nd} {cs : List Value} (h : NV w P n cs) : NV w (fun g => P g ∧ g < w.heap.size) n cs := NV.keep (fun g h1 h2 => ⟨rfl, h1, h2⟩) n cs h
theorem NL.under {n : List Nd} {cs : List Value} (h : NL w P n cs) : NL w (fun g => P g ∧ g < w.heap.size) n cs := NL.keep (fun g h1 h2 => ⟨rfl, h1, h2⟩) n cs h
end
/-! What a call may change. -/
structure Kp (Z : Nat → Prop) (w w' : World) : Prop where
 os : w'.os = w.os
 tape : w'.tape = w.tape
 output : w'.output = w.output
 size : w.heap.size ≤ w'.heap.size
 block : ∀ k, k < w.heap.size → ¬ Z k → w'.heap[k]? = w.heap[k]?
section
variable {w w' a b c : World} {Z Z' : Nat → Prop}
theorem Kp.refl (Z : Nat → Prop) (w : World) : Kp Z w w := ⟨rfl, rfl, rfl, Nat.le_refl _, fun _ _ _ => rfl⟩
theorem Kp.trans (h : Kp Z a b) (h2 : Kp Z' b c) (hz : ∀ k, k < a.heap.size → Z' k → Z k) : Kp Z a c :=
 ⟨h2.os.trans h.os, h2.tape.trans h.tape, h2.output.trans h.output, Nat.le_trans h.size h2.size, fun k hk hn => (h2.block k (Nat.lt_of_lt_of_le hk h.size) (fun e => hn (hz k hk e))).trans (h.block k hk hn)⟩
theorem Kp.mono (h : Kp Z a b) (hz : ∀ k, k < a.heap.size → Z k → Z' k) : Kp Z' a b := ⟨h.os, h.tape, h.output, h.size, fun k hk hn => h.block k hk (fun e => hn (hz k hk e))⟩
theorem Kp.of_below' (h : Below a.heap.size a b) : Kp Z a b := ⟨h.os, h.tape, h.output, h.size, fun k hk _ => h.block k hk⟩
theorem Kp.below {B : Nat} (h : Kp Z a b) (hB : B ≤ a.heap.size) (hz : ∀ k, k < B → ¬ Z k) : Below B a b := ⟨h.os, h.tape, h.output, h.size, fun k hk => h.block k (by omega) (hz k hk)⟩
theorem Kp.grown {row : Option Nat} (h : a.grownBy b row) (hz : ∀ k, k < a.heap.size → some k = row → Z k) : Kp Z a b := ⟨h.os, h.tape, h.output, h.size, fun k hk hn => h.block k hk (fun e => hn (hz k hk e))⟩
theorem Kp.alloc (Z : Nat → Prop) (w : World) (o : Obj) : Kp Z w (w.alloc o) := Kp.of_below' ((Below.refl _ _).alloc (Nat.le_refl _) o)
theorem Kp.drew (Z : Nat → Prop) (w : World) : Kp Z w w.drew := Kp.of_below' ((Below.refl _ _).drew)
theorem Kp.drewN (Z : Nat → Prop) (w : World) (n : Nat) : Kp Z w (w.drewN n) := Kp.of_below' (below_drewN (Below.refl _ _) n)
theorem Kp.setCell (w : World) (p : Addr) (u : Value) (hz : Z p.block) : Kp Z w (w.setCell p u) :=
 ⟨rfl, rfl, rfl, by simp [World.setCell], fun k hk hn => Below.heap_setCell _ _ _ _ (fun e => hn (by rw [e]; exact hz))⟩
theorem Kp.blk {g : Nat} {t : TypeId} {cs : List Value} (h : Kp Z a b) (hb : Blk a g t cs) (hz : ¬ Z g) : Blk b g t cs := (h.block g hb.lt hz).trans hb
theorem Kp.nv {P : Nat → Prop} {n : Nd} {cs : List Value} (h : Kp Z a b) (hv : NV a P n cs) (hz : ∀ g, P g → g < a.heap.size → ¬ Z g) : NV b P n cs :=
 NV.keep (fun g h1 h2 => ⟨h.block g h2 (hz g h1 h2), h1⟩) n cs hv
theorem Kp.nl {P : Nat → Prop} {n : List Nd} {cs : List Value} (h : Kp Z a b) (hv : NL a P n cs) (hz : ∀ g, P g → g < a.heap.size → ¬ Z g) : NL b P n cs :=
 NL.keep (fun g h1 h2 => ⟨h.block g h2 (hz g h1 h2), h1⟩) n cs hv
end
theorem Kp.set {a b : World} {Z : Nat → Prop} (h : Kp Z a b) (p : Addr) (u : Value) (hz : Z p.block) : Kp Z a (b.setCell p u) := h.trans (Kp.setCell b p u hz) (fun _ _ h => h)
theorem below_step {a b c : World} (h : Below a.heap.size a b) (h2 : Below b.heap.size b c) : Below a.heap.size a c := h.trans (h2.mono h.size)
end Go.Proofs.YtpbhgebblpdmnaaDoor
namespace Go.Proofs.YtpbhgebblpdmnaaDoor
open Go.RowKit Wr Src
set_option linter.unusedVariables false
set_option maxRecDepth 100000
theorem isLetter_any (b : UInt8) (w : World) : Calls Tryd.prog 44 #[.int .u8 (b.toNat : Int)] w fun e w' => e = .returned (.bool (isL b)) ∧ w = w' := by
 have hb := b.toNat_lt
 suffices h : ∀ R, Hid (isL b = R) → Calls Tryd.prog 44 #[.int .u8 (b.toNat : Int)] w fun e w' => e = .returned (.bool R) ∧ w = w' from h _ (Lib.hid rfl)
 intro R HR
 have hr := HR.out
 unfold isL at hr
 generalize b.toNat = n at *
 clear HR
 by_cases h1 : 97 ≤ n
 ·
  by_cases h2 : n ≤ 122
  ·
   rw [decide_eq_true ⟨h1, h2⟩] at hr
   subst hr
   have h3 : (97 : Int) ≤ (n : Int) := by omega
   have h4 : (n : Int) ≤ 122 := by omega
   go_enter Tryd.func44, Tryd.ntmps44
   go_wp2
   go_ret
   exact ⟨rfl, rfl⟩
  ·
   rw [decide_eq_false (by omega)] at hr
   subst hr
   have h3 : (97 : Int) ≤ (n : Int) := by omega
   have h4 : ¬ (n : Int) ≤ 122 := by omega
   go_enter Tryd.func44, Tryd.ntmps44
   go_wp2
   go_ret
   exact ⟨rfl, rfl⟩
 ·
  rw [decide_eq_false (by omega)] at hr
  subst hr
  have h3 : ¬ (97 : Int) ≤ (n : Int) := by omega
  go_enter Tryd.func44, Tryd.ntmps44
  go_wp2
  go_ret
  exact ⟨rfl, rfl⟩
theorem isDigit_any (b : UInt8) (w : World) : Calls Tryd.prog 47 #[.int .u8 (b.toNat : Int)] w fun e w' => e = .returned (.bool (isD b)) ∧ w = w' := by
 have hb := b.toNat_lt
 suffices h : ∀ R, Hid (isD b = R) → Calls Tryd.prog 47 #[.int .u8 (b.toNat : Int)] w fun e w' => e = .returned (.bool R) ∧ w = w' from h _ (Lib.hid rfl)
 intro R HR
 have hr := HR.out
 unfold isD at hr
 generalize b.toNat = n at *
 clear HR
 by_cases h1 : 48 ≤ n
 ·
  by_cases h2 : n ≤ 57
  ·
   rw [decide_eq_true ⟨h1, h2⟩] at hr
   subst hr
   have h3 : (48 : Int) ≤ (n : Int) := by omega
   have h4 : (n : Int) ≤ 57 := by omega
   go_enter Tryd.func47, Tryd.ntmps47
   go_wp2
   go_ret
   exact ⟨rfl, rfl⟩
  ·
   rw [decide_eq_false (by omega)] at hr
   subst hr
   have h3 : (48 : Int) ≤ (n : Int) := by omega
   have h4 : ¬ (n : Int) ≤ 57 := by omega
   go_enter Tryd.func47, Tryd.ntmps47
   go_wp2
   go_ret
   exact ⟨rfl, rfl⟩
 ·
  rw [decide_eq_false (by omega)] at hr
  subst hr
  have h3 : ¬ (48 : Int) ≤ (n : Int) := by omega
  go_enter Tryd.func47, Tryd.ntmps47
  go_wp2
  go_ret
  exact ⟨rfl, rfl⟩
theorem run_take {p : UInt8 → Bool} {l : Str} {k : Nat} (h : (l.take k).all p = true) (hk : k ≤ l.length) (hs : k = l.length ∨ ∃ h : k < l.length, p l[k] = false) : (l.takeWhile p).length = k := by
 have e : l = l.take k ++ l.drop k := (List.take_append_drop k l).symm
 have hd : (l.drop k).takeWhile p = [] := by
  rcases hs with h | ⟨h, h2⟩
  ·
   rw [List.drop_eq_nil_of_le (by omega)]; rfl
  ·
   rw [List.drop_eq_getElem_cons h, List.takeWhile_cons, h2]; rfl
 rw [e, List.takeWhile_append_of_pos (List.all_eq_true.1 h), hd, List.append_nil, List.length_take]; omega
theorem all_next {p : UInt8 → Bool} {l : Str} {k : Nat} (h : (l.take k).all p = true) (hk : k < l.length) (hp : p l[k] = true) : (l.take (k + 1)).all p = true := by
 rw [List.take_succ_eq_append_getElem hk, List.all_append, h, Bool.true_and]; simp [hp]
theorem numeralSize_any (l : Str) (w : World) (hl : l.length ≤ 4294967296) : Calls Tryd.prog 48 #[sv l] w fun e w' => e = .returned (nv (numLen l)) ∧ w = w' := by
 suffices h : ∀ R : Nat, Hid (numLen l = R) → Calls Tryd.prog 48 #[sv l] w fun e w' => e = .returned (nv R) ∧ w = w' from h _ (Lib.hid rfl)
 intro R HR
 obtain ⟨n, hn⟩ : ∃ n, n = l.length := ⟨_, rfl⟩
 have hsz : (⟨l.toArray⟩ : ByteArray).size = n := hn.symm
 have HN := Lib.hid hn
 have hnI : (n : Int) ≤ 4294967296 := by omega
 have HD := Lib.hid (fun b W => isDigit_any b W)
 clear hl hn
 go_enter Tryd.func48, Tryd.ntmps48
 go_wp2
 go_loopw [3] (fun s wr => ∃ k : Nat, k ≤ n ∧ s = .int .i64 (k : Int) ∧ (l.take k).all isD = true ∧ wr = w) (fun s _ => n - (intOf s).toNat)
 case atStart => exact ⟨0, Nat.zero_le _, rfl, rfl, rfl⟩
 case round =>
  obtain ⟨k, hk, rfl, hall, rfl⟩ := hrel
  have HA := Lib.hid hall
  clear hall
  rcases Nat.lt_or_ge k n with hlt | hge
  ·
   have hkl : k < l.length := by have := HN.out; omega
   have hkI : (k : Int) < (n : Int) := by omega
   have HDk : Hid (∀ W, Calls Tryd.prog 47 #[.int .u8 (((⟨l.toArray⟩ : ByteArray)[k]'(by show k < l.length; exact hkl)).toNat : Int)] W fun e w' => e = .returned (.bool (isD l[k])) ∧ W = w') := Lib.hid (fun W => HD.out l[k] W)
   obtain ⟨d, hd⟩ : ∃ d, d = isD l[k] := ⟨_, rfl⟩
   rw [← hd] at HDk
   have Hd := Lib.hid hd
   clear hd HD
   cases d with
   | true =>
    have HT := Lib.hid (all_next HA.out hkl Hd.out.symm)
    clear Hd
    go_wp2_with fail
    refine (HDk.out _).mono ?_
    rintro e w1 ⟨rfl, rfl⟩
    go_wp2_with fail
    go_roundw
    case rel => exact ⟨k + 1, by omega, by simp, HT.out, by trivial⟩
    case measure => simp only [intOf]; omega
   | false =>
    have HF := Lib.hid (show numLen l = if k ≤ 3 then k else 0 by
     unfold numLen; rw [run_take HA.out (by have := HN.out; omega) (Or.inr ⟨hkl, Hd.out.symm⟩)])
    clear Hd HA
    by_cases h3 : k ≤ 3
    ·
     have h3I : ¬ (3 < (k : Int)) := by omega
     have hR := HR.out
     rw [HF.out, if_pos h3] at hR
     subst hR
     clear HF HR
     go_wp2_with fail
     refine (HDk.out _).mono ?_
     rintro e w1 ⟨rfl, rfl⟩
     go_wp2_with fail
     go_ret
     exact ⟨rfl, rfl⟩
    ·
     have h3I : 3 < (k : Int) := by omega
     have hR := HR.out
     rw [HF.out, if_neg h3] at hR
     subst hR
     clear HF HR
     go_wp2_with fail
     refine (HDk.out _).mono ?_
     rintro e w1 ⟨rfl, rfl⟩
     go_wp2_with fail
     go_ret
     exact ⟨rfl, rfl⟩
  ·
   have hkn : k = n := by omega
   subst hkn
   have HF := Lib.hid (show numLen l = if k ≤ 3 then k else 0 by
    unfold numLen; rw [run_take HA.out (by have := HN.out; omega) (Or.inl HN.out)])
   clear HA HD
   by_cases h3 : k ≤ 3
   ·
    have h3I : ¬ (3 < (k : Int)) := by omega
    have hR := HR.out
    rw [HF.out, if_pos h3] at hR
    subst hR
    clear HF HR
    go_wp2_with fail
    go_ret
    exact ⟨rfl, rfl⟩
   ·
    have h3I : 3 < (k : Int) := by omega
    have hR := HR.out
    rw [HF.out, if_neg h3] at hR
    subst hR
    clear HF HR
    go_wp2_with fail
    go_ret
    exact ⟨rfl, rfl⟩
end Go.Proofs.YtpbhgebblpdmnaaDoor
namespace Go.Proofs.YtpbhgebblpdmnaaDoor
open Go.RowKit Wr Src
set_option linter.unusedVariables false
set_option maxRecDepth 100000
def wcount : Str → Nat
 | [] => 0
 | b :: t => if isL b = true then (t.takeWhile isW).length + 1 else 0
theorem wordLen_count (l : Str) : wordLen l = if wcount l ≤ 16 then wcount l else 0 := by
 cases l with
 | nil => rfl
 | cons b t =>
  show (if isL b = true ∧ (t.takeWhile isW).length + 1 ≤ 16 then (t.takeWhile isW).length + 1 else 0) = _
  by_cases h : isL b = true
  ·
   have e : wcount (b :: t) = (t.takeWhile isW).length + 1 := if_pos h
   rw [e]
   by_cases h2 : (t.takeWhile isW).length + 1 ≤ 16
   ·
    rw [if_pos ⟨h, h2⟩, if_pos h2]
   ·
    rw [if_neg (fun e => h2 e.2), if_neg h2]
  ·
   have e : wcount (b :: t) = 0 := if_neg h
   rw [e, if_neg (fun e => h e.1)]; rfl
theorem tw_step {p : UInt8 → Bool} : ∀ (t : Str) (j : Nat) (h : j < t.length), j ≤ (t.takeWhile p).length → p t[j] = decide (j < (t.takeWhile p).length)
 | [], j, h, _ => by simp at h
 | b :: t, j, h, hj => by
  rw [List.takeWhile_cons] at hj ⊢
  by_cases hb : p b = true
  ·
   rw [if_pos hb] at hj ⊢
   cases j with
   | zero => simp [hb]
   | succ j =>
    rw [List.length_cons] at hj ⊢
    have := tw_step (p := p) t j (by simp at h; omega) (by omega)
    simp only [List.getElem_cons_succ, this]
    rw [decide_eq_decide]; omega
  ·
   rw [if_neg hb] at hj ⊢
   simp only [List.length_nil, Nat.le_zero] at hj
   subst hj
   simp [hb]
theorem wc_le (l : Str) : wcount l ≤ l.length := by
 cases l with
 | nil => exact Nat.le_refl _
 | cons b t =>
  unfold wcount
  dsimp only
  split
  ·
   rw [List.length_cons]; have := (List.takeWhile_prefix (l := t) (p := isW)).length_le; omega
  ·
   exact Nat.zero_le _
theorem wc_step (l : Str) (k : Nat) (h : k < l.length) (hk : k ≤ wcount l) : (isL l[k] || (decide (0 < k) && isD l[k])) = decide (k < wcount l) := by
 cases l with
 | nil => simp at h
 | cons b t =>
  by_cases hb : isL b = true
  ·
   have e : wcount (b :: t) = (t.takeWhile isW).length + 1 := if_pos hb
   rw [e] at hk ⊢
   cases k with
   | zero => simp [hb]
   | succ j =>
    have := tw_step (p := isW) t j (by simp at h; omega) (by omega)
    simp only [List.getElem_cons_succ, Nat.zero_lt_succ, decide_true, Bool.true_and]
    show isW (t[j]'(by simp at h; omega)) = _
    rw [this, decide_eq_decide]; omega
  ·
   have e : wcount (b :: t) = 0 := if_neg hb
   rw [e] at hk ⊢
   obtain rfl : k = 0 := by omega
   simp [hb]
theorem wordSize_any (l : Str) (w : World) (hl : l.length ≤ 4294967296) : Calls Tryd.prog 46 #[sv l] w fun e w' => e = .returned (nv (wordLen l)) ∧ w = w' := by
 suffices h : ∀ R : Nat, Hid (wordLen l = R) → Calls Tryd.prog 46 #[sv l] w fun e w' => e = .returned (nv R) ∧ w = w' from h _ (Lh rfl)
 intro R HR
 obtain ⟨n, hn⟩ : ∃ n, n = l.length := ⟨_, rfl⟩
 have hsz : (⟨l.toArray⟩ : ByteArray).size = n := hn.symm
 have HN := Lh hn
 have hnI : (n : Int) ≤ 4294967296 := by omega
 have HW := Lh (wordLen_count l)
 have HS := Lh (wc_step l)
 have HE := Lh (wc_le l)
 obtain ⟨c, hc⟩ : ∃ c, c = wcount l := ⟨_, rfl⟩
 rw [← hc] at HW HS HE
 clear hl hn hc
 go_enter Tryd.func46, Tryd.ntmps46
 go_wp2
 go_loopw [3] (fun s wr => ∃ k : Nat, k ≤ n ∧ s = .int .i64 (k : Int) ∧ Hid (k ≤ c) ∧ wr = w) (fun s _ => n - (intOf s).toNat)
 case atStart => exact ⟨0, Nat.zero_le _, rfl, Lh (Nat.zero_le _), rfl⟩
 case round =>
  obtain ⟨k, hk, rfl, HA, rfl⟩ := hrel
  rcases Nat.lt_or_ge k n with hlt | hge
  ·
   have hkl : k < l.length := by have := HN.out; omega
   have hkI : (k : Int) < (n : Int) := by omega
   have HDk : Hid (∀ W, Calls Tryd.prog 47 #[.int .u8 (((⟨l.toArray⟩ : ByteArray)[k]'(by show k < l.length; exact hkl)).toNat : Int)] W fun e w' => e = .returned (.bool (isD l[k])) ∧ W = w') := Lh (fun W => isDigit_any l[k] W)
   have HLk : Hid (∀ W, Calls Tryd.prog 44 #[.int .u8 (((⟨l.toArray⟩ : ByteArray)[k]'(by show k < l.length; exact hkl)).toNat : Int)] W fun e w' => e = .returned (.bool (isL l[k])) ∧ W = w') := Lh (fun W => isLetter_any l[k] W)
   have hst := HS.out k hkl HA.out
   obtain ⟨d, hd⟩ : ∃ d, d = isD l[k] := ⟨_, rfl⟩
   obtain ⟨g, hg⟩ : ∃ d, d = isL l[k] := ⟨_, rfl⟩
   rw [← hd] at HDk hst
   rw [← hg] at HLk hst
   clear hd hg HS
   by_cases hkc : k < c
   ·
    rw [decide_eq_true hkc] at hst
    cases g with
    | true =>
     clear hst HDk HW HE HR
     go_wp2_with fail
     refine (HLk.out _).mono ?_
     rintro e w1 ⟨rfl, rfl⟩
     go_wp2_with fail
     go_roundw
     case rel => exact ⟨k + 1, by omega, by simp, Lh (by omega), by trivial⟩
     case measure => simp only [intOf]; omega
    | false =>
     cases d with
     | false => simp at hst
     | true =>
      have h0 : 0 < k := by simpa using hst
      have h0I : 0 < (k : Int) := by omega
      clear hst HW HE HR
      go_wp2_with fail
      refine (HLk.out _).mono ?_
      rintro e w1 ⟨rfl, rfl⟩
      go_wp2_with fail
      refine (HDk.out _).mono ?_
      rintro e w1 ⟨rfl, rfl⟩
      go_wp2_with fail
      go_roundw
      case rel => exact ⟨k + 1, by omega, by simp, Lh (by omega), by trivial⟩
      case measure => simp only [intOf]; omega
   ·
    rw [decide_eq_false hkc] at hst
    have hkk : k = c := by have := HA.out; omega
    have hR := HW.out.symm
    rw [HR.out, ← hkk] at hR
    have HR' := Lh hR
    clear HW HE HR hkk hkc HA hR
    cases g with
    | true => simp at hst
    | false =>
     by_cases h3 : k ≤ 16
     ·
      have h3I : ¬ (16 < (k : Int)) := by omega
      have hR := HR'.out
      rw [if_pos h3] at hR
      subst hR
      clear HR'
      by_cases h0 : 0 < k
      ·
       have h0I : 0 < (k : Int) := by omega
       cases d with
       | true => simp [h0] at hst
       | false =>
        clear hst h0
        go_wp2_with fail
        refine (HLk.out _).mono ?_
        rintro e w1 ⟨rfl, rfl⟩
        go_wp2_with fail
        refine (HDk.out _).mono ?_
        rintro e w1 ⟨rfl, rfl⟩
        go_wp2_with fail
        go_ret
        exact ⟨rfl, rfl⟩
      ·
       have h0I : ¬ 0 < (k : Int) := by omega
       clear hst h0
       go_wp2_with fail
       refine (HLk.out _).mono ?_
       rintro e w1 ⟨rfl, rfl⟩
       go_wp2_with fail
       go_ret
       exact ⟨rfl, rfl⟩
     ·
      have h3I : 16 < (k : Int) := by omega
      have h0I : 0 < (k : Int) := by omega
      have hR := HR'.out
      rw [if_neg h3] at hR
      subst hR
      clear HR'
      cases d with
      | true => simp at hst; omega
      | false =>
       clear hst
       go_wp2_with fail
       refine (HLk.out _).mono ?_
       rintro e w1 ⟨rfl, rfl⟩
       go_wp2_with fail
       refine (HDk.out _).mono ?_
       rintro e w1 ⟨rfl, rfl⟩
       go_wp2_with fail
       go_ret
       exact ⟨rfl, rfl⟩
  ·
   have hkn : k = n := by omega
   have hkk : k = c := by have h1 := HA.out; have h2 := HE.out; have h3 := HN.out; omega
   have hR := HW.out.symm
   rw [HR.out, ← hkk] at hR
   have HR' := Lh hR
   clear HW HE HR hkk HA hR HS
   subst hkn
   by_cases h3 : k ≤ 16
   ·
    have h3I : ¬ (16 < (k : Int)) := by omega
    have hR := HR'.out
    rw [if_pos h3] at hR
    subst hR
    clear HR'
    go_wp2_with fail
    go_ret
    exact ⟨rfl, rfl⟩
   ·
    have h3I : 16 < (k : Int) := by omega
    have hR := HR'.out
    rw [if_neg h3] at hR
    subst hR
    clear HR'
    go_wp2_with fail
    go_ret
    exact ⟨rfl, rfl⟩
theorem sv_drop (l : Str) (k : Nat) : (⟨l.toArray⟩ : ByteArray).extract k l.length = ⟨(l.drop k).toArray⟩ := by
 apply ByteArray.ext
 rw [ByteArray.data_extract]
 simp
 exact List.take_of_length_le (by simp)
theorem sv_take (l : Str) (k : Nat) : (⟨l.toArray⟩ : ByteArray).extract 0 k = ⟨(l.take k).toArray⟩ := by
 apply ByteArray.ext
 rw [ByteArray.data_extract]
 simp
theorem localSize_any (b : UInt8) (t : Str) (w : World) (hl : t.length ≤ 4294967295) : Calls Tryd.prog 49 #[sv (b :: t)] w fun e w' => e = .returned (nv (if wordLen t = 0 then 0 else wordLen t + 1)) ∧ w = w' := by
 have hsz : (⟨(b :: t).toArray⟩ : ByteArray).size = t.length + 1 := rfl
 have HW := Lh (fun W => wordSize_any t W (by omega))
 have he := sv_drop (b :: t) 1
 rw [List.length_cons, List.drop_succ_cons, List.drop_zero] at he
 obtain ⟨n, hn⟩ : ∃ n, n = t.length := ⟨_, rfl⟩
 rw [← hn] at hsz hl he
 have hlI : (n : Int) ≤ 4294967295 := by omega
 obtain ⟨k, hk⟩ : ∃ n, n = wordLen t := ⟨_, rfl⟩
 have hk16 : k ≤ 16 := by rw [hk, wordLen_count]; split <;> omega
 rw [← hk] at HW ⊢
 obtain ⟨R, hR⟩ : ∃ R, (if k = 0 then 0 else k + 1) = R := ⟨_, rfl⟩
 rw [hR]
 have HR := Lh hR
 clear hn hl hk hR
 obtain ⟨s, hs⟩ : ∃ s : ByteArray, s = ⟨(b :: t).toArray⟩ := ⟨_, rfl⟩
 rw [show sv (b :: t) = .string s by rw [hs]]
 rw [← hs] at hsz he
 have HE := Lh he
 clear hs he
 go_enter Tryd.func49, Tryd.ntmps49
 go_wp2_with fail
 rw [HE.out]
 refine (HW.out _).mono ?_
 rintro e w1 ⟨rfl, rfl⟩
 have hR := HR.out
 clear HR
 by_cases h0 : k = 0
 ·
  subst h0
  rw [if_pos rfl] at hR
  subst hR
  go_wp2_with fail
  go_ret
  exact ⟨rfl, rfl⟩
 ·
  have h0I : ((k : Int) == 0) = false := by rw [beq_eq_false_iff_ne]; omega
  rw [if_neg h0] at hR
  subst hR
  have hkI : (k : Int) ≤ 16 := by omega
  clear h0
  go_wp2_with fail
  go_ret
  exact ⟨by simp [Int.add_comm], rfl⟩
end Go.Proofs.YtpbhgebblpdmnaaDoor
namespace Go.Proofs.YtpbhgebblpdmnaaDoor
open Go.RowKit Wr Src
set_option linter.unusedVariables false
set_option maxRecDepth 100000
theorem Blk.kpRow {w : World} {g : Nat} (c : Array Value) : Kp (fun k => k = g) w (w.setRow g c) :=
 ⟨rfl, rfl, rfl, by simp, fun k hk hn => heap_setRow_other _ _ _ _ hn⟩
theorem wpList_store_blk {P : Program} {ops : Array Oper} {rest : List Oper} {o : Oper} {a : Act} {w : World} {Q : Exit → Act → World → Prop} (hgd : o.guard = none) (T : TypeId) (n : Nat) (hs : (P.info? T).map (·.size) = some n) (x y : Operand) (ho : o.op = .store T x y)
  (g : Nat) (cs : List Value) (hx : a.eval x = .pointer (some ⟨g, 0, none⟩)) (hy : a.eval y = .agg cs.toArray) (old : List Value) (hb : Blk w g T old) (hl : cs.length = n) (hold : old.length = n) (h1 : cs.all (·.oneCell') = true)
  (h : ∀ w', Blk w' g T cs → Kp (fun k => k = g) w w' → wpList P ops Q rest (a.put o.dst undef) w') : wpList P ops Q (o :: rest) a w :=
 wpList_store_row hgd T x y ho g cs.toArray hx hy T old.toArray hb (by rw [hs, List.size_toArray, hl]) (by rw [List.size_toArray, List.size_toArray, hl, hold]) (by simpa using h1) (h _ (Blk.row hb cs) (Blk.kpRow _))
theorem wpList_load_cells {P : Program} {ops : Array Oper} {rest : List Oper} {o : Oper} {a : Act} {w : World} {Q : Exit → Act → World → Prop} (hgd : o.guard = none) (T : TypeId) (n : Nat) (hs : (P.info? T).map (·.size) = some n) (x : Operand) (ho : o.op = .load T x)
  (ad : Addr) (hx : a.eval x = .pointer (some ad)) (cs : List Value) (hl : cs.length = n) (d : TypeDesc) (hu : P.underlying T = some d) (hd : (match d with | .struct _ | .array _ _ => true | _ => false) = true) (hc : ∀ j v, cs[j]? = some v → w.cell? (ad.add j) = some v)
  (h : wpList P ops Q rest (a.put o.dst (.agg cs.toArray)) w) : wpList P ops Q (o :: rest) a w :=
 wpList_load_at hgd T x ho ad hx cs d hc hu hd (by rw [hs, hl]) h
theorem box_res {P : Program} {fn : Func} {p : Tmp} {T : TypeId} (n : Nat) (hs : (P.info? T).map (·.size) = some n) (h : fn.results = #[.cell p T]) (tmps : Array Value) (w : World) (g : Nat) (cs : List Value) (d : TypeDesc)
  (hp : tmps.getD p undef = .pointer (some ⟨g, 0, none⟩)) (hb : Blk w g T cs) (hl : cs.length = n) (hu : P.underlying T = some d) (hd : (match d with | .struct _ | .array _ _ => true | _ => false) = true) :
  (results fn tmps).run P w = .ok (.agg cs.toArray) w :=
 results_cell_row h tmps w g T cs.toArray (0, 0) d hp hb hu hd (by rw [hs, List.size_toArray, hl])
theorem res_none {P : Program} {fn : Func} (h : fn.results = #[]) (tmps : Array Value) (w : World) : (results fn tmps).run P w = .ok (.tuple #[]) w := by simp [results, h]
theorem size62 : (Tryd.prog.info? 62).map (·.size) = some 5 := by kernel_rfl
theorem size82 : (Tryd.prog.info? 82).map (·.size) = some 4 := by kernel_rfl
theorem size75 : (Tryd.prog.info? 75).map (·.size) = some 3 := by kernel_rfl
theorem size25 : (Tryd.prog.info? 25).map (·.size) = some 4 := by kernel_rfl
theorem zero62 : ∀ W : World, (zeroValue 62).run Tryd.prog W = .ok (.agg #[.int .i64 0, .string ⟨#[]⟩, .int .i64 0, .int .i64 0, .int .i64 0]) W := fun _ => by kernel_rfl
theorem zero82 : ∀ W : World, (zeroValue 82).run Tryd.prog W = .ok (.agg #[.string ⟨#[]⟩, .string ⟨#[]⟩, .int .i64 0, .int .i64 0]) W := fun _ => by kernel_rfl
theorem zero75 : ∀ W : World, (zeroValue 75).run Tryd.prog W = .ok (.agg #[.string ⟨#[]⟩, .int .i64 0, .int .i64 0]) W := fun _ => by kernel_rfl
theorem zero25 : ∀ W : World, (zeroValue 25).run Tryd.prog W = .ok (.agg #[.int .i64 0, .string ⟨#[]⟩, .int .i64 0, .slice none 0 0]) W := fun _ => by kernel_rfl
theorem zero65 : ∀ W : World, (zeroValue 65).run Tryd.prog W = .ok (.agg #[.string ⟨#[]⟩, .int .i64 0, .string ⟨#[]⟩, .int .i64 0, .int .i64 0, .int .i64 0, .int .i64 0]) W := fun _ => by kernel_rfl
theorem zero68 : ∀ W : World, (zeroValue 68).run Tryd.prog W = .ok (.agg #[.slice none 0 0, .int .i64 0, .bool false]) W := fun _ => by kernel_rfl
end Go.Proofs.YtpbhgebblpdmnaaDoor
