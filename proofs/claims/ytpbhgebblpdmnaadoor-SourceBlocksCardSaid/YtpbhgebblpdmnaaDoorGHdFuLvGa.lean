/-
  Contracts and words of several parts of the program (Hd, Fu, Lv, Ga), one after the other.
  Conditions: those that each says.
-/
import Derived.Test.YtpbhgebblpdmnaaDoorZ
import Derived.Test.YtpbhgebblpdmnaaDoorGTxVpPaSz
namespace Go.Proofs.YtpbhgebblpdmnaaDoor
open Go.RowKit Wr Src
set_option linter.unusedVariables false
set_option maxRecDepth 100000
def HdP (n : Nd) (w : World) (en : Ending) (w' : World) : Prop := ∃ (k : Int) (T : Str), en = .returned (.tuple #[iv k, sv T]) ∧ Below w.heap.size w w' ∧ (vDef n → k = n.kind ∧ T = n.text) ∧ (¬ vDef n → k = -1 ∧ T = [])
section
variable {B : Nat} {w : World} {P : Nat → Prop}
set_option maxHeartbeats 4000000 in
theorem head_any (ht : Tab B w) (n : Nd) (cs : List Value) (hv : NV w P n cs) : Calls Tryd.prog 26 #[.agg cs.toArray] w (HdP n w) := by
 obtain ⟨nk, nt, nz, nl⟩ := n
 obtain ⟨A0, C0, ys0, hcs, _⟩ := hv.form
 subst hcs
 obtain ⟨L0, hL0⟩ : ∃ L, L = nl.length := ⟨_, rfl⟩
 unfold NC at *
 rw [← hL0] at hv ⊢
 clear hL0
 obtain ⟨wb, hwb⟩ : ∃ wb, wb = w.heap.size := ⟨_, rfl⟩
 have HWB := Lh hwb
 have HWb := Lh hwb.symm
 obtain ⟨w1, hw1⟩ : ∃ w1, w1 = w.alloc (.cells #[.int .i64 nk, .string ⟨nt.toArray⟩, .int .i64 nz, .slice A0 L0 C0] 25) := ⟨_, rfl⟩
 have l1 : Below w.heap.size w w1 := by rw [hw1]; exact (Below.refl _ _).alloc (Nat.le_refl _) _
 have Z1 := Lh (show Blk w1 wb 25 [iv nk, sv nt, iv nz, .slice A0 L0 C0] by rw [hw1, hwb]; exact Blk.new w _ _)
 have L1 := Lh l1
 have W1 := Lh hw1
 have HTx := Lh (valid_any (ht.below l1) (.mk nk nt nz nl) _ (hv.any.anyBelow l1))
 obtain ⟨N, hN⟩ : ∃ N, N = Nd.mk nk nt nz nl := ⟨_, rfl⟩
 have HKT := Lh (show nk = N.kind ∧ nt = N.text by rw [hN]; exact ⟨rfl, rfl⟩)
 rw [← hN] at HTx ⊢
 clear ht hv hwb hw1 l1 hN
 go_enter Tryd.func26, Tryd.ntmps26
 go_upto_region 1 with fail
 rw [HWb.out]
 change Code.wp _ _ _ _ (w.alloc (.cells #[.int .i64 nk, .string ⟨nt.toArray⟩, .int .i64 nz, .slice A0 L0 C0] 25))
 rw [← W1.out]
 go_wp2_with (first | (with_reducible refine wpList_load_cells rfl 25 4 size25 (.tmp 1) rfl ⟨wb, 0, none⟩ rfl [iv nk, sv nt, iv nz, .slice A0 L0 C0] rfl _ Tryd.underlying25 rfl Z1.out.at ?_))
 refine HTx.out.mono ?_
 rintro e w2 ⟨r, rfl, b2, h1⟩
 have L2 := Lh (below_step L1.out b2)
 have Z2 := Lh (Z1.out.below b2 Z1.out.lt)
 cases r with
 | true =>
  have H1 := Lh (h1.1 rfl)
  clear b2 h1
  go_wp2_with fail
  refine wp_region_any (by kernel_rfl) ?_
  change wpAny _ _ _ _ _ _ _ (World.drew w2)
  have LD := Lh (L2.out.drew)
  have ZD := Lh (Z2.out.drew)
  generalize World.drew w2 = wdr at LD ZD ⊢
  have z0 := ZD.out.cell 0; have z1 := ZD.out.cell 1
  simp only [List.getElem?_cons_zero, List.getElem?_cons_succ] at z0 z1
  refine tg 0 (.pointer (some ⟨wb, 0, none⟩)) ?_
  refine tg 2 (.pointer (some ⟨wb, 1, none⟩)) ?_
  refine rm [1, 3] (ac (fun K hK => ?_) (ac (fun K hK => ?_) AllReady.nil))
  ·
   go_simp
   try (refine hk hK ?_; clear hK K)
   refine tg 4 (iv nk) ?_
   refine r1 3 (fun K hK => ?_)
   go_simp
   try (refine hk hK ?_; clear hK K)
   refine tg 5 (sv nt) ?_
   refine wpAny_done (by kernel_rfl) ?_ _
   try simp only [zp, zn, zu, zv, zw]
   go_wp2_with fail
   exact bodyPost_ret (v := .tuple #[iv nk, sv nt]) (by simp [results]) rfl ⟨nk, nt, rfl, LD.out, fun _ => HKT.out, fun e => absurd H1.out e⟩
  ·
   go_simp
   try (refine hk hK ?_; clear hK K)
   refine r1 1 (fun K hK => ?_)
   go_simp
   try (refine hk hK ?_; clear hK K)
   refine tg 4 (iv nk) ?_
   refine tg 5 (sv nt) ?_
   refine wpAny_done (by kernel_rfl) ?_ _
   try simp only [zp, zn, zu, zv, zw]
   go_wp2_with fail
   exact bodyPost_ret (v := .tuple #[iv nk, sv nt]) (by simp [results]) rfl ⟨nk, nt, rfl, LD.out, fun _ => HKT.out, fun e => absurd H1.out e⟩
 | false =>
  have H1 := Lh (show ¬ vDef N from fun e => by have := h1.2 e; cases this)
  clear b2 h1
  go_wp2_with fail
  exact bodyPost_ret (v := .tuple #[iv (-1), sv []]) (by simp [results]) rfl ⟨-1, [], rfl, L2.out, fun e => absurd e H1.out, fun _ => ⟨rfl, rfl⟩⟩
end
end Go.Proofs.YtpbhgebblpdmnaaDoor
namespace Go.Proofs.YtpbhgebblpdmnaaDoor
open Go.RowKit Wr Src
set_option linter.unusedVariables false
set_option maxRecDepth 100000
section
variable {s : St}
theorem look_err (h : s.e ≠ 0) : s.look = [] := if_neg h
theorem fail_err (h : s.e ≠ 0) (e : Nat) : s.fail e = s := if_neg h
theorem fail_nine (h : (s.fail 9).e ≠ 9) : s.e ≠ 0 := fun e => h (by unfold St.fail; rw [if_pos e])
theorem expect_err (h : s.e ≠ 0) {t : Str} (ht : t ≠ []) : s.expect t = s := by
 unfold St.expect
 rw [look_err h, if_neg (fun e => ht e.symm), fail_err h]
theorem get_err (h : s.e ≠ 0) {c : Nat} (hc : c ≠ 0) : (s.getText c).2 = s := by
 unfold St.getText
 rw [look_err h, if_neg (show cls [] ≠ c from fun e => hc e.symm), fail_err h]
theorem num_err (h : s.e ≠ 0) (a b : Nat) : (s.numeral a b).2 = s := by
 unfold St.numeral
 rw [look_err h, if_pos (show cls [] ≠ 4 by decide), fail_err h]
theorem numb_err (h : s.e ≠ 0) (a b : Nat) : (s.number a b).2 = s := by
 unfold St.number
 rw [look_err h, if_neg (by decide)]
 exact num_err h a b
theorem place_err (h : s.e ≠ 0) : s.place.2 = s := by
 have hn : s.name.2 = s := get_err h (by decide)
 unfold St.place
 rw [hn, look_err h, if_neg (by decide)]
theorem kind_err (h : s.e ≠ 0) (a b : Int) : s.kindHere a b = -1 := by
 unfold St.kindHere
 rw [look_err h]
 rw [show wordKind [] = none by decide]
theorem stmt_err (h : s.e ≠ 0) : s.stmtHere = -1 := by
 unfold St.stmtHere
 rw [look_err h, if_neg (by decide), if_neg (by decide)]
 exact kind_err h _ _
end
structure Stk (k : Nat) : Prop where
 nd : ∀ kd s, s.e ≠ 0 → (node k kd s).2 = s
 ps : ∀ kd cs n s, s.e ≠ 0 → (parts k kd cs n s).2 = s
 pt : ∀ kd c n s, s.e ≠ 0 → (Src.part k kd c n s).2 = s
 it : ∀ n s, s.e ≠ 0 → (items k n s).2 = s
 st : ∀ n s, s.e ≠ 0 → (stmts k n s).2 = s
 op : ∀ lv s, 1 ≤ lv → s.e ≠ 0 → (ops k lv s).2 = s
 om : ∀ lv n s, 1 ≤ lv → s.e ≠ 0 → (opsMore k lv n s).2 = s
theorem stk : ∀ k, Stk k
 | 0 => ⟨fun kd s h => by rw [node]; exact fail_err h 9, fun kd cs n s h => by rw [parts]; exact fail_err h 9, fun kd c n s h => by rw [Src.part]; exact fail_err h 9, fun n s h => by rw [items]; exact fail_err h 9, fun n s h => by rw [stmts]; exact fail_err h 9, fun lv s _ h => by rw [ops]; exact fail_err h 9, fun lv n s _ h => by rw [opsMore]; exact fail_err h 9⟩
 | k + 1 => by
  have ih := stk k
  refine ⟨fun kd s h => ?_, fun kd cs n s h => ?_, fun kd c n s h => ?_, fun n s h => ?_, fun n s h => ?_, fun lv s hl h => ?_, fun lv n s hl h => ?_⟩
  ·
   rw [node]
   by_cases hw : (Src.shape kd).word = []
   ·
    rw [if_pos hw]; exact ih.ps _ _ _ _ h
   ·
    rw [if_neg hw, expect_err h hw]; exact ih.ps _ _ _ _ h
  ·
   cases cs with
   | nil => rw [parts]
   | cons c cs => rw [parts, ih.pt _ _ _ _ h]; exact ih.ps _ _ _ _ h
  ·
   rw [Src.part]
   split
   ·
    exact get_err h (by decide)
   split
   ·
    exact get_err h (by decide)
   split
   ·
    exact num_err h _ _
   split
   ·
    exact numb_err h _ _
   split
   ·
    exact ih.op _ _ (by omega) h
   split
   ·
    exact ih.nd _ _ h
   split
   ·
    exact ih.nd _ _ h
   split
   ·
    exact place_err h
   split
   ·
    rw [look_err h, if_neg (by decide)]
   split
   ·
    exact ih.it _ _ h
   split
   ·
    exact ih.st _ _ h
   ·
    exact expect_err h (by simp)
  ·
   rw [items, look_err h, if_neg (by decide)]
  ·
   rw [stmts, stmt_err h, if_neg (by simp)]
  ·
   rw [ops]
   split
   ·
    rw [look_err h, if_neg (by decide), if_neg (by decide), if_neg (by decide), kind_err h, if_neg (by decide)]
    exact place_err h
   ·
    rw [ih.op _ _ (by omega) h]; exact ih.om _ _ _ hl h
  ·
   rw [opsMore, look_err h, if_neg (show (opOf []).1 ≠ lv by rw [show (opOf []).1 = 0 by decide]; omega)]
def Agr (r r' : Nd × St) : Prop := r'.2 = r.2 ∧ (r.2.e = 0 → r'.1 = r.1)
theorem agr_rfl (r : Nd × St) : Agr r r := ⟨rfl, fun _ => rfl⟩
structure Stb (k : Nat) : Prop where
 nd : ∀ kd s, (node k kd s).2.e ≠ 9 → Agr (node k kd s) (node (k + 1) kd s)
 ps : ∀ kd cs n s, (parts k kd cs n s).2.e ≠ 9 → Agr (parts k kd cs n s) (parts (k + 1) kd cs n s)
 pt : ∀ kd c n s, (Src.part k kd c n s).2.e ≠ 9 → Agr (Src.part k kd c n s) (Src.part (k + 1) kd c n s)
 it : ∀ n s, (items k n s).2.e ≠ 9 → Agr (items k n s) (items (k + 1) n s)
 st : ∀ n s, (stmts k n s).2.e ≠ 9 → Agr (stmts k n s) (stmts (k + 1) n s)
 op : ∀ lv s, 1 ≤ lv → (ops k lv s).2.e ≠ 9 → Agr (ops k lv s) (ops (k + 1) lv s)
 om : ∀ lv n s, 1 ≤ lv → (opsMore k lv n s).2.e ≠ 9 → Agr (opsMore k lv n s) (opsMore (k + 1) lv n s)
theorem agr_seq {a a' : Nd × St} {G G' : Nd → St → Nd × St} {f : Nd → Nd} (h9 : (G (f a.1) a.2).2.e ≠ 9) (ha : a.2.e ≠ 9 → Agr a a') (hg : ∀ n s, s.e ≠ 0 → (G n s).2 = s) (hg' : ∀ n s, s.e ≠ 0 → (G' n s).2 = s)
  (hG : ∀ n s, (G n s).2.e ≠ 9 → Agr (G n s) (G' n s)) : Agr (G (f a.1) a.2) (G' (f a'.1) a'.2) := by
 have h1 : a.2.e ≠ 9 := fun e => h9 (by rw [hg _ _ (by rw [e]; decide), e])
 obtain ⟨h2, h3⟩ := ha h1
 by_cases h0 : a.2.e = 0
 ·
  rw [h2, h3 h0]; exact hG _ _ h9
 ·
  refine ⟨?_, fun e => ?_⟩
  ·
   rw [hg _ _ h0, h2, hg' _ _ h0]
  ·
   rw [hg _ _ h0] at e; exact absurd e h0
theorem agr_map {a a' : Nd × St} {f : Nd → Nd} (h9 : a.2.e ≠ 9) (ha : a.2.e ≠ 9 → Agr a a') : Agr (f a.1, a.2) (f a'.1, a'.2) := ⟨(ha h9).1, fun e => congrArg f ((ha h9).2 e)⟩
theorem stb : ∀ k, Stb k
 | 0 => by
  have h1 := stk 1
  refine ⟨fun kd s h => ?_, fun kd cs n s h => ?_, fun kd c n s h => ?_, fun n s h => ?_, fun n s h => ?_, fun lv s hl h => ?_, fun lv n s hl h => ?_⟩
  ·
   rw [node] at h ⊢; have h0 := fail_nine h; exact ⟨(h1.nd _ _ h0).trans (fail_err h0 9).symm, fun e => absurd (by rw [← fail_err h0 9]; exact e) h0⟩
  ·
   rw [parts] at h ⊢; have h0 := fail_nine h; exact ⟨(h1.ps _ _ _ _ h0).trans (fail_err h0 9).symm, fun e => absurd (by rw [← fail_err h0 9]; exact e) h0⟩
  ·
   rw [Src.part] at h ⊢; have h0 := fail_nine h; exact ⟨(h1.pt _ _ _ _ h0).trans (fail_err h0 9).symm, fun e => absurd (by rw [← fail_err h0 9]; exact e) h0⟩
  ·
   rw [items] at h ⊢; have h0 := fail_nine h; exact ⟨(h1.it _ _ h0).trans (fail_err h0 9).symm, fun e => absurd (by rw [← fail_err h0 9]; exact e) h0⟩
  ·
   rw [stmts] at h ⊢; have h0 := fail_nine h; exact ⟨(h1.st _ _ h0).trans (fail_err h0 9).symm, fun e => absurd (by rw [← fail_err h0 9]; exact e) h0⟩
  ·
   rw [ops] at h ⊢; have h0 := fail_nine h; exact ⟨(h1.op _ _ hl h0).trans (fail_err h0 9).symm, fun e => absurd (by rw [← fail_err h0 9]; exact e) h0⟩
  ·
   rw [opsMore] at h ⊢; have h0 := fail_nine h; exact ⟨(h1.om _ _ _ hl h0).trans (fail_err h0 9).symm, fun e => absurd (by rw [← fail_err h0 9]; exact e) h0⟩
 | k + 1 => by
  have ih := stb k
  have sk := stk k
  have sk1 := stk (k + 1)
  refine ⟨fun kd s h => ?_, fun kd cs n s h => ?_, fun kd c n s h => ?_, fun n s h => ?_, fun n s h => ?_, fun lv s hl h => ?_, fun lv n s hl h => ?_⟩
  ·
   rw [node] at h ⊢
   rw [node]
   exact ih.ps _ _ _ _ h
  ·
   cases cs with
   | nil => rw [parts, parts]; exact agr_rfl _
   | cons c cs =>
    rw [parts] at h ⊢
    rw [parts]
    exact agr_seq (G := parts k kd cs) (G' := parts (k + 1) kd cs) (f := id) h (ih.pt _ _ _ _) (sk.ps _ _) (sk1.ps _ _) (ih.ps _ _)
  ·
   rw [Src.part] at h ⊢
   rw [Src.part]
   by_cases h110 : c = 110
   ·
    rw [if_pos h110] at h
    rw [if_pos h110, if_pos h110]
    exact agr_rfl _
   rw [if_neg h110] at h
   rw [if_neg h110, if_neg h110]
   by_cases h108 : c = 108
   ·
    rw [if_pos h108] at h
    rw [if_pos h108, if_pos h108]
    exact agr_rfl _
   rw [if_neg h108] at h
   rw [if_neg h108, if_neg h108]
   by_cases h100 : c = 100
   ·
    rw [if_pos h100] at h
    rw [if_pos h100, if_pos h100]
    exact agr_rfl _
   rw [if_neg h100] at h
   rw [if_neg h100, if_neg h100]
   by_cases h122 : c = 122
   ·
    rw [if_pos h122] at h
    rw [if_pos h122, if_pos h122]
    exact agr_rfl _
   rw [if_neg h122] at h
   rw [if_neg h122, if_neg h122]
   by_cases h69 : c = 69
   ·
    rw [if_pos h69] at h
    rw [if_pos h69, if_pos h69]
    exact agr_map (f := fun x => n.push x) h (ih.op _ _ (by omega))
   rw [if_neg h69] at h
   rw [if_neg h69, if_neg h69]
   by_cases h66 : c = 66
   ·
    rw [if_pos h66] at h
    rw [if_pos h66, if_pos h66]
    exact agr_map (f := fun x => n.push x) h (ih.nd _ _)
   rw [if_neg h66] at h
   rw [if_neg h66, if_neg h66]
   by_cases h76 : c = 76
   ·
    rw [if_pos h76] at h
    rw [if_pos h76, if_pos h76]
    exact agr_map (f := fun x => n.push x) h (ih.nd _ _)
   rw [if_neg h76] at h
   rw [if_neg h76, if_neg h76]
   by_cases h80 : c = 80
   ·
    rw [if_pos h80] at h
    rw [if_pos h80, if_pos h80]
    exact agr_rfl _
   rw [if_neg h80] at h
   rw [if_neg h80, if_neg h80]
   by_cases h79 : c = 79
   ·
    rw [if_pos h79] at h
    rw [if_pos h79, if_pos h79]
    by_cases hw : s.look = wElse
    ·
     rw [if_pos hw] at h
     rw [if_pos hw, if_pos hw]
     exact agr_map (f := fun x => n.push x) h (ih.nd _ _)
    ·
     rw [if_neg hw, if_neg hw]
     exact agr_rfl _
   rw [if_neg h79] at h
   rw [if_neg h79, if_neg h79]
   by_cases h73 : c = 73
   ·
    rw [if_pos h73] at h
    rw [if_pos h73, if_pos h73]
    exact ih.it _ _ h
   rw [if_neg h73] at h
   rw [if_neg h73, if_neg h73]
   by_cases h83 : c = 83
   ·
    rw [if_pos h83] at h
    rw [if_pos h83, if_pos h83]
    exact ih.st _ _ h
   rw [if_neg h83] at h
   rw [if_neg h83, if_neg h83]
   exact agr_rfl _
  ·
   rw [items] at h ⊢
   rw [items]
   split
   ·
    rename_i hc
    rw [if_pos hc] at h
    exact agr_seq (G := items k) (G' := items (k + 1)) (f := fun x => n.push x) h (ih.nd _ _) sk.it sk1.it ih.it
   ·
    exact agr_rfl _
  ·
   rw [stmts] at h ⊢
   rw [stmts]
   split
   ·
    rename_i hc
    rw [if_pos hc] at h
    exact agr_seq (G := stmts k) (G' := stmts (k + 1)) (f := fun x => n.push x) h (ih.nd _ _) sk.st sk1.st ih.st
   ·
    exact agr_rfl _
  ·
   rw [ops] at h ⊢
   rw [ops]
   split
   ·
    rename_i h4
    rw [if_pos h4] at h
    split
    ·
     rename_i hc; rw [if_pos hc] at h; exact ih.nd _ _ h
    split
    ·
     rename_i hc hd; rw [if_neg hc, if_pos hd] at h; exact ih.nd _ _ h
    split
    ·
     rename_i hc hd he
     rw [if_neg hc, if_neg hd, if_pos he] at h
     exact agr_seq (G := fun n s => (n, s.expect [41])) (G' := fun n s => (n, s.expect [41])) (f := id) h (ih.op _ _ (by omega)) (fun n s e => expect_err e (by decide)) (fun n s e => expect_err e (by decide)) (fun n s _ => agr_rfl _)
    split
    ·
     rename_i hc hd he hf; rw [if_neg hc, if_neg hd, if_neg he, if_pos hf] at h; exact ih.nd _ _ h
    ·
     exact agr_rfl _
   ·
    rename_i h4
    rw [if_neg h4] at h
    exact agr_seq (G := opsMore k lv) (G' := opsMore (k + 1) lv) (f := id) h (ih.op _ _ (by omega)) (fun n s e => sk.om _ _ _ hl e) (fun n s e => sk1.om _ _ _ hl e) (fun n s e => ih.om _ _ _ hl e)
  ·
   rw [opsMore] at h ⊢
   rw [opsMore]
   split
   ·
    rename_i h4
    rw [if_pos h4] at h
    split
    ·
     rename_i h1
     rw [if_pos h1] at h
     exact agr_map (f := fun x => .mk (opOf s.look).2 [] 0 [n, x]) h (ih.op _ _ (by omega))
    ·
     rename_i h1
     rw [if_neg h1] at h
     exact agr_seq (G := opsMore k lv) (G' := opsMore (k + 1) lv) (f := fun x => .mk (opOf s.look).2 [] 0 [n, x]) h (ih.op _ _ (by omega)) (fun n s e => sk.om _ _ _ hl e) (fun n s e => sk1.om _ _ _ hl e) (fun n s e => ih.om _ _ _ hl e)
   ·
    exact agr_rfl _
theorem rdDef_ev {k : Nat} {s : St} (h : (rdDef k s).2.e ≠ 9) : ∀ j, Agr (rdDef k s) (rdDef (k + j) s)
 | 0 => agr_rfl _
 | j + 1 => by
  obtain ⟨h1, h2⟩ := rdDef_ev h j
  have h3 : (rdDef (k + j) s).2.e ≠ 9 := by rw [h1]; exact h
  have h4 : Agr (rdDef (k + j) s) (rdDef (k + (j + 1)) s) := by
   unfold rdDef at h3 ⊢
   split
   ·
    exact agr_rfl _
   ·
    rename_i hk
    rw [if_neg hk] at h3
    exact (stb (k + j)).nd _ _ h3
  exact ⟨h4.1.trans h1, fun e => (h4.2 (by rw [h1]; exact e)).trans (h2 e)⟩
theorem rdDef_of {k : Nat} {s : St} (h : (rdDef k s).2.e = 0) : Ev (fun k => rdDef k s) (rdDef k s) := ⟨k, fun j hj => by
 obtain ⟨i, rfl⟩ : ∃ i, j = k + i := ⟨j - k, by omega⟩
 obtain ⟨h1, h2⟩ := rdDef_ev (k := k) (s := s) (by rw [h]; decide) i
 exact Prod.ext (h2 h) h1⟩
theorem rdDef_state {k : Nat} {s : St} (h : (rdDef k s).2.e ≠ 9) {n : Nd} {s' : St} (he : Ev (fun k => rdDef k s) (n, s')) : s' = (rdDef k s).2 ∧ ((rdDef k s).2.e = 0 → n = (rdDef k s).1) := by
 obtain ⟨K, hK⟩ := he
 have h1 : rdDef (k + K) s = (n, s') := hK (k + K) (by omega)
 obtain ⟨a, b⟩ := rdDef_ev h K
 rw [h1] at a b
 exact ⟨a, b⟩
end Go.Proofs.YtpbhgebblpdmnaaDoor
namespace Go.Proofs.YtpbhgebblpdmnaaDoor
open Go.RowKit Wr Src
set_option linter.unusedVariables false
set_option maxRecDepth 100000
def rdK (K : Nat) (S : Str) : Nd × Nat × Nat :=
 if (rdDef K ⟨(LX S 0).1, 0⟩).2.at' (LX S 0).2 < S.length ∨ (rdDef K ⟨(LX S 0).1, 0⟩).2.e ≠ 0 then (.zero, (rdDef K ⟨(LX S 0).1, 0⟩).2.at' (LX S 0).2, if (rdDef K ⟨(LX S 0).1, 0⟩).2.e = 0 then 2 else (rdDef K ⟨(LX S 0).1, 0⟩).2.e)
 else ((rdDef K ⟨(LX S 0).1, 0⟩).1, 0, 0)
theorem rdis_run {S : Str} {n : Nd} {p e : Nat} (K : Nat) (h9 : (rdDef K ⟨(LX S 0).1, 0⟩).2.e ≠ 9) (h : RdIs S n p e) : (n, p, e) = rdK K S := by
 obtain ⟨n', s', h1, _, h3, h4⟩ := h
 obtain ⟨a, b⟩ := rdDef_state h9 h1
 subst a
 unfold rdK
 split
 ·
  rename_i hc
  obtain ⟨rfl, rfl, rfl⟩ := h3 hc
  rfl
 ·
  rename_i hc
  obtain ⟨rfl, rfl, rfl⟩ := h4 hc
  rw [b (Decidable.byContradiction fun h => hc (Or.inr h))]
theorem rdis_err {S : Str} {n : Nd} {p e : Nat} (h : RdIs S n p e) (he : e ≠ 0) : n = .zero := by
 obtain ⟨n', s', _, _, h3, h4⟩ := h
 by_cases hc : s'.at' (LX S 0).2 < S.length ∨ s'.e ≠ 0
 ·
  exact (h3 hc).1
 ·
  exact absurd (h4 hc).2.2 he
theorem psis_run {S : Str} {n n1 : Nd} {p p1 e e1 : Nat} (K : Nat) (hl : S.length ≤ 1024) (h9 : (rdDef K ⟨(LX S 0).1, 0⟩).2.e ≠ 9) (hr : rdK K S = (n1, p1, e1)) (h : PsIs S n p e) (hf : e1 = 0 → (wNode 24 n1 ⟨[], false⟩).bad = false) : n = n1 ∧ p = p1 ∧ e = e1 := by
 obtain ⟨a, b, c, h1, h2, h3, h4⟩ := h.2 hl
 have := rdis_run K h9 h1
 rw [hr] at this
 injection this with e1' e2
 injection e2 with e2 e3
 subst e1' e2 e3
 by_cases he : c = 0
 ·
  obtain ⟨q1, q2, q3⟩ := h4 he (hf he)
  exact ⟨q1, q2.trans (rdis_zero h1 he).symm, q3.trans he.symm⟩
 ·
  obtain ⟨q1, q2, q3⟩ := h2 he
  exact ⟨q1.trans (rdis_err h1 he).symm, q2, q3⟩
def tx1 : Str := [118, 97, 114, 32, 110, 61, 45, 55, 59]
def tx2 : Str := [112, 114, 111, 99, 32, 112, 123, 36, 97, 61, 40, 120, 46, 121, 43, 49, 41, 42, 50, 59, 105, 102, 32, 36, 97, 60, 51, 123, 103, 111, 32, 113, 59, 125, 101, 108, 115, 101, 123, 125, 125]
def tx3 : Str := [116, 101, 115, 116, 32, 116, 32, 123, 32, 99, 104, 101, 99, 107, 32, 49, 32, 61, 61, 32, 107, 105, 110, 100, 59, 32, 125]
def tx4 : Str := [99, 104, 97, 110, 32, 99, 32, 52, 59]
def tx5 : Str := [116, 101, 115, 116, 32, 116, 32, 123, 32, 120, 32, 61, 32, 59, 32, 125]
def tx6 : Str := [108, 111, 99, 107, 32, 108]
def tx7 : Str := [118, 97, 114, 32, 114, 101, 97, 100, 32, 61, 32, 49, 59]
theorem run1 : rdK 40 tx1 = (.mk 0 [110] (-7) [], 0, 0) := by kernel_rfl
theorem run4 : rdK 40 tx4 = (.zero, 7, 5) := by kernel_rfl
theorem run5 : rdK 60 tx5 = (.zero, 13, 2) := by kernel_rfl
theorem run6 : rdK 40 tx6 = (.zero, 6, 2) := by kernel_rfl
theorem run7 : rdK 40 tx7 = (.zero, 4, 2) := by kernel_rfl
def nd3 : Nd := .mk 6 [116] 0 [.mk 8 [] 0 [.mk 24 [] 0 [.mk 28 [] 0 [.mk 32 [] 1 [], .mk 36 [] 0 []]]]]
theorem run3 : rdK 60 tx3 = (nd3, 0, 0) := by kernel_rfl
def nd2 : Nd := (rdK 100 tx2).1
theorem run2 : rdK 100 tx2 = (nd2, 0, 0) := by kernel_rfl
theorem sz2 : nsz nd2 = 15 := by kernel_rfl
theorem nine : (rdDef 40 ⟨(LX tx1 0).1, 0⟩).2.e = 0 ∧ (rdDef 100 ⟨(LX tx2 0).1, 0⟩).2.e = 0 ∧ (rdDef 60 ⟨(LX tx3 0).1, 0⟩).2.e = 0 ∧ (rdDef 40 ⟨(LX tx4 0).1, 0⟩).2.e = 5 ∧ (rdDef 60 ⟨(LX tx5 0).1, 0⟩).2.e = 2 ∧ (rdDef 40 ⟨(LX tx6 0).1, 0⟩).2.e = 2 ∧ (rdDef 40 ⟨(LX tx7 0).1, 0⟩).2.e = 2 := ⟨by kernel_rfl, by kernel_rfl, by kernel_rfl, by kernel_rfl, by kernel_rfl, by kernel_rfl, by kernel_rfl⟩
theorem wr1 : wNode 24 (.mk 0 [110] (-7) []) ⟨[], false⟩ = ⟨bs "var n = -7;", false⟩ := by kernel_rfl
theorem wr2 : wNode 24 nd2 ⟨[], false⟩ = ⟨bs "proc p { $a = (x.y + 1) * 2; if $a < 3 { go q; } else { } }", false⟩ := by kernel_rfl
theorem wr3 : wNode 24 nd3 ⟨[], false⟩ = ⟨bs "test t { check 1 == kind; }", false⟩ := by kernel_rfl
theorem rdok_of {K : Nat} {t : Str} {n : Nd} (h1 : (LX t 0).2 = t.length) (h2 : rdDef K (Src.S (LX t 0).1) = (n, Src.S [])) : RdOk t n := by
 refine ⟨h1, ?_⟩
 have := rdDef_of (k := K) (s := Src.S (LX t 0).1) (by rw [h2]; rfl)
 rwa [h2] at this
theorem vd1 : vDef (.mk 0 [110] (-7) []) := (valid_iff _).2 ⟨by rw [wr1], by rw [wr1]; exact rdok_of (K := 40) (by kernel_rfl) (by kernel_rfl)⟩
theorem vd2 : vDef nd2 := (valid_iff _).2 ⟨by rw [wr2], by rw [wr2]; exact rdok_of (K := 100) (by kernel_rfl) (by kernel_rfl)⟩
theorem vd3 : vDef nd3 := (valid_iff _).2 ⟨by rw [wr3], by rw [wr3]; exact rdok_of (K := 60) (by kernel_rfl) (by kernel_rfl)⟩
theorem txt1 : txt 24 (.mk 0 [110] (-7) []) = bs "var n = -7;" := by rw [← tx_valid vd1, wr1]
theorem txt2 : txt 24 nd2 = bs "proc p { $a = (x.y + 1) * 2; if $a < 3 { go q; } else { } }" := by rw [← tx_valid vd2, wr2]
end Go.Proofs.YtpbhgebblpdmnaaDoor
namespace Go.Proofs.YtpbhgebblpdmnaaDoor
open Go.RowKit Wr Src
set_option linter.unusedVariables false
set_option maxRecDepth 100000
def I64 (z : Int) : Prop := -9223372036854775808 ≤ z ∧ z ≤ 9223372036854775807
def arI (z : Int) (m : Nat) : Nat := (if z < 0 then -(z + 1) else z).toNat % m
theorem arI_lt (z : Int) {m : Nat} (h : 0 < m) : arI z m < m := Nat.mod_lt _ h
structure TkF (L : List Int) (i m r : Nat) : Prop where
 none : L.length ≤ i → r = 0
 some : ∀ z, L[i]? = some z → r = arI z m
theorem around_any (z : Int) (m : Nat) (w : World) (hz : I64 z) (h0 : 0 < m) (h1 : m ≤ 1000000) : Calls Tryd.prog 24 #[iv z, nv m] w fun en w' => en = .returned (nv (arI z m)) ∧ w = w' := by
 obtain ⟨hz0, hz1⟩ := hz
 obtain ⟨y, hy⟩ : ∃ y : Nat, (if z < 0 then -(z + 1) else z) = (y : Int) := ⟨(if z < 0 then -(z + 1) else z).toNat, by split <;> omega⟩
 have HM := Lib.hid (show y % m < m from Nat.mod_lt _ h0)
 have HR := Lib.hid (show y % m = arI z m by unfold arI; rw [hy]; rfl)
 have hmI : ((m : Int) == 0) = false := by rw [beq_eq_false_iff_ne]; omega
 have hm2 : ¬ ((m : Int) = 0) := by omega
 have hm3 : ¬ ((m : Int) = -1) := by omega
 have hrem : Int.tmod (y : Int) (m : Int) = ((y % m : Nat) : Int) := by rw [Int.tmod_eq_emod_of_nonneg (by omega)]; omega
 by_cases hn : z < 0
 ·
  rw [if_pos hn] at hy
  have q1 : IntKind.i64.wrap (z + 1) = z + 1 := IntWalk.i64_in _ (by omega)
  have q2 : IntKind.i64.wrap (-(z + 1)) = -(z + 1) := IntWalk.i64_in _ (by omega)
  have q3 : IntKind.i64.wrap (Int.tmod (-(z + 1)) (m : Int)) = ((y % m : Nat) : Int) := by
   rw [hy, hrem]; exact IntWalk.i64_in _ (by have := HM.out; omega)
  have HV := Lib.hid (show -(z + 1).tmod (m : Int) = ((y % m : Nat) : Int) by rw [← Int.neg_tmod, hy, hrem])
  clear hrem hy
  go_enter Tryd.func24, Tryd.ntmps24
  go_wp2_with fail
  refine bodyPost_ret (v := .int .i64 (-(z + 1).tmod (m : Int))) (by simp [results]) rfl ⟨?_, rfl⟩
  rw [HV.out, HR.out]
 ·
  rw [if_neg hn] at hy
  have q3 : IntKind.i64.wrap (Int.tmod z (m : Int)) = ((y % m : Nat) : Int) := by
   rw [hy, hrem]; exact IntWalk.i64_in _ (by have := HM.out; omega)
  have HV := Lib.hid (show z % (m : Int) = ((y % m : Nat) : Int) by rw [hy]; omega)
  clear hrem hy
  go_enter Tryd.func24, Tryd.ntmps24
  go_wp2_with fail
  refine bodyPost_ret (v := .int .i64 (z % (m : Int))) (by simp [results]) rfl ⟨?_, rfl⟩
  rw [HV.out, HR.out]
structure IL (w : World) (P : Nat → Prop) (v : Value) (L : List Int) : Prop where
 f : ∃ A c, v = .slice A L.length c ∧ L.length ≤ c ∧ RdP w P A (L.map (fun z => iv z))
 z : ∀ z ∈ L, I64 z
 n : L.length ≤ 17592186044416
theorem IL.kp {w w' : World} {P : Nat → Prop} {v : Value} {L : List Int} {Z : Nat → Prop} (h : IL w P v L) (k : Kp Z w w') (hz : ∀ g, P g → ¬ Z g) : IL w' P v L := by
 obtain ⟨⟨A, c, h1, h2, h3⟩, h4, h5⟩ := h
 exact ⟨⟨A, c, h1, h2, h3.keep (fun g a b => ⟨k.block g b (hz g a), a⟩)⟩, h4, h5⟩
theorem at_any {w : World} {P : Nat → Prop} {v : Value} {L : List Int} (h : IL w P v L) (i : Nat) (hi : i ≤ 1000000000) (m : Nat) (h0 : 0 < m) (h1 : m ≤ 1000000) : Calls Tryd.prog 20 #[v, nv i, nv m] w fun en w' => ∃ r : Nat, r < m ∧ TkF L i m r ∧ en = .returned (nv r) ∧ w = w' := by
 obtain ⟨⟨A, c, rfl, hc, hr⟩, hz, hn⟩ := h
 obtain ⟨n, hN⟩ : ∃ n, n = L.length := ⟨_, rfl⟩
 have HNn := Lib.hid hN
 rw [← hN] at hc hn ⊢
 have H0 := Lib.hid h0
 by_cases hlt : i < n
 ·
  have hlI : (i : Int) < (n : Int) := by omega
  have hlJ : ¬ (n : Int) ≤ (i : Int) := by omega
  have HLt := Lib.hid hlt
  have hne : L.map (fun z => iv z) ≠ [] := by
   intro e
   have := congrArg List.length e
   simp at this
   rw [this] at hN
   simp at hN; omega
  obtain ⟨g, o, rfl, _, hcell⟩ := hr hne
  obtain ⟨z, hzi⟩ : ∃ z, L[i]? = some z := ⟨_, List.getElem?_eq_getElem (by omega)⟩
  have cz := hcell i (iv z) (by rw [List.getElem?_map, hzi]; rfl)
  have HA := Lib.hid (around_any z m w (hz z (List.mem_of_getElem? hzi)) h0 h1)
  have hcI : (n : Int) ≤ (c : Int) := by omega
  have HZi := Lib.hid hzi
  clear hr hcell hzi hz hN h0
  go_enter Tryd.func20, Tryd.ntmps20
  go_wp2_with fail
  refine HA.out.mono ?_
  rintro e w1 ⟨rfl, rfl⟩
  obtain ⟨r, hr⟩ : ∃ r, r = arI z m := ⟨_, rfl⟩
  rw [← hr]
  have HR := Lib.hid hr
  clear hr
  go_wp2_with fail
  exact bodyPost_ret (v := nv r) (by simp [results]) rfl ⟨r, by rw [HR.out]; exact arI_lt z H0.out, ⟨fun e => by have := HLt.out; have := HNn.out; omega, fun z' h => by have h2 := HZi.out; rw [h2] at h; injection h with h; rw [← h]; exact HR.out⟩, rfl, rfl⟩
 ·
  have hlJ : (n : Int) ≤ (i : Int) := by omega
  have HNo := Lib.hid (show L[i]? = none from List.getElem?_eq_none (by omega))
  clear hr hz hN hlt h0
  go_enter Tryd.func20, Tryd.ntmps20
  go_wp2_with fail
  exact bodyPost_ret (v := nv 0) (by simp [results]) rfl ⟨0, H0.out, ⟨fun _ => rfl, fun z' h => by have h2 := HNo.out; rw [h2] at h; cases h⟩, rfl, rfl⟩
end Go.Proofs.YtpbhgebblpdmnaaDoor
