/-
  The contracts of the reference's sides, Shown, Prove and Range.
  Conditions: at most 2^16 leaves, keys and values of at most 2^30 bytes; the reference's table of the round constants is as the text lays it.
-/
import Derived.Test.YtofccgkgjcnfbaaDoorZ
import Derived.Test.YtofccgkgjcnfbaaDoorRTrees
set_option linter.unusedSimpArgs false
namespace Go.Proofs.YtofccgkgjcnfbaaDoor
open Go.RowKit Wr Sh
set_option linter.unusedVariables false
set_option maxRecDepth 100000
theorem wpList_append_digs {w : World} {ops : Array Oper} {rest : List Oper} {o : Oper} {a : Act} {Q : Exit → Act → World → Prop} (hgd : o.guard = none) (s x : Operand)
  (ho : o.op = .call { callee := .builtin .append, args := #[s, x], argTypes := #[48, 48] })
  (base : Nat) (v : Value) (n : Nat) (xs : List Value) (hs : a.eval s = v) (hown : w.ownsRow base 29 16 v n xs)
  (A : Option Addr) (m c B : Nat) (news : List (List UInt8)) (hx : a.eval x = .slice A m c) (hnil : A = none → c = 0) (hl : news.length = m) (h16 : ∀ d ∈ news, d.length = 16) (hr : Rd w B A (B8 news.flatten))
  (hbytes : n + m ≤ 4294967296) (hbase : base ≤ w.heap.size)
  (h : ∀ v' w', w'.ownsRow base 29 16 v' (n + m) (xs ++ B8 news.flatten) → w.grownBy w' v.ownBlock → wpList Tryd.prog ops Q rest (a.put o.dst v') w') : wpList Tryd.prog ops Q (o :: rest) a w := by
 refine wpList_plain hgd fun K hK => ?_
 obtain ⟨i0, hi0, hz0, hz1, hz2⟩ := info_parts info29
 have hlen : (B8 news.flatten).length = m * 16 := by rw [B8_len, List.length_flatten, sum16 news h16, hl]
 by_cases hne : B8 news.flatten = []
 ·
  have hm : m = 0 := by rw [hne] at hlen; simp at hlen; omega
  subst hm
  cases A with
  | none =>
   have hc := hnil rfl
   subst hc
   refine Lib.wp_append_run w s x 48 48 ho v _ hs hx v w (run_append_owned_none w base 48 _ 29 i0 16 Tryd.underlying48 hi0 v n xs hown) (hK _ _ (h v w ?_ (World.grownBy.refl _ _)))
   rw [hne, List.append_nil, Nat.add_zero]; exact hown
  | some ad =>
   exact wp_append_own w s x 48 ho base 29 i0 (.agg Z16.toArray) 16 16 Tryd.underlying48 hi0 hz0 hz1 hz2 rfl (by decide) v n xs hs hown ad 0 c (B8 news.flatten) hx (by rw [hne]; rfl) (fun j u hu => by rw [hne] at hu; simp at hu) (B8_one _) (by unfold maxLen; omega) (by omega) hbase (fun v' w' h1 h2 _ => hK _ _ (h v' w' h1 h2))
 ·
  obtain ⟨g, off, rfl, hg, hcell⟩ := hr hne
  exact wp_append_own w s x 48 ho base 29 i0 (.agg Z16.toArray) 16 16 Tryd.underlying48 hi0 hz0 hz1 hz2 rfl (by decide) v n xs hs hown ⟨g, off, none⟩ m c (B8 news.flatten) hx hlen (fun j u hu => by rw [Addr.add_lit]; exact hcell j u hu) (B8_one _) (by unfold maxLen; omega) (by omega) hbase (fun v' w' h1 h2 _ => hK _ _ (h v' w' h1 h2))
theorem sides_each (L : List Lf) (first last : Nat) (n : Nat) : ∀ (a b : Nat), b - a ≤ n → ∀ d ∈ sides node (leafAt lf L) first last a b, d.length = 16 := by
 induction n with
 | zero =>
  intro a b h d hd
  by_cases hc : b ≤ first ∨ last ≤ a
  ·
   rw [sides_told _ _ hc, List.mem_singleton] at hd; subst hd; exact tree_len L a b
  ·
   rw [sides_one _ _ hc (by omega)] at hd; cases hd
 | succ n ih =>
  intro a b h d hd
  by_cases hc : b ≤ first ∨ last ≤ a
  ·
   rw [sides_told _ _ hc, List.mem_singleton] at hd; subst hd; exact tree_len L a b
  ·
   by_cases h1 : 1 < b - a
   ·
    have := half_lt h1
    have := half_pos (b - a)
    rw [sides_split _ _ hc h1, List.mem_append] at hd
    rcases hd with hd | hd
    ·
     exact ih _ _ (by omega) d hd
    ·
     exact ih _ _ (by omega) d hd
   ·
    rw [sides_one _ _ hc (by omega)] at hd; cases hd
def SidesP (w : World) (S : List (List UInt8)) (e : Ending) (w' : World) : Prop := ∃ v', e = .returned v' ∧ w'.ownsRow w.heap.size 29 16 v' S.length (B8 S.flatten) ∧ Below w.heap.size w w'
section
variable (A : Option Addr) (L : List Lf) (NL c first last : Nat) (hNL : NL = L.length) (hL : okL L) (hln : L.length ≤ 100000) (hf : first ≤ 1073741824) (hla : last ≤ 1073741824)
include hNL hL hln hf hla
set_option maxHeartbeats 8000000 in
theorem sides_any (k : Nat) : ∀ (a b : Nat) (w : World), b - a ≤ k → a < b → b ≤ L.length → Rd w w.heap.size A (LC L) → Tab 0 w →
  Calls Tryd.prog 86 #[.slice A NL c, .int .i64 (first : Int), .int .i64 (last : Int), .int .i64 (a : Int), .int .i64 (b : Int)] w (SidesP w (sides node (leafAt lf L) first last a b)) := by
 induction k with
 | zero => intro a b w h1 h2; omega
 | succ k ih =>
  intro a b w hk hab hb hr ht
  have hZ := hZ16
  have hbb : b ≤ 1073741824 := by omega
  by_cases hc : b ≤ first ∨ last ≤ a
  ·
   have HTD := Lh (sides_told node (leafAt lf L) hc)
   obtain ⟨D, hD⟩ : ∃ D, D = tree node (leafAt lf L) a b := ⟨_, rfl⟩
   have HDl := Lh (show D.length = 16 by rw [hD]; exact tree_len L a b)
   obtain ⟨W1, hW1⟩ : ∃ W, W = w.alloc (.cells #[.slice none 0 0, .slice none 0 0, .int .i64 0, .bool false] 104) := ⟨_, rfl⟩
   have hb1 : Below w.heap.size w W1 := by rw [hW1]; exact (Below.refl _ _).alloc (Nat.le_refl _) _
   have S1 := Lh (show StT (w.heap.size + 1) w.heap.size none 0 0 (.slice none 0 0) RS.new W1 by rw [hW1]; exact StT.new none 0 0 w)
   have h0 : 0 < w.heap.size := ht.1
   have HC : Hid (Calls Tryd.prog 81 #[.pointer (some ⟨w.heap.size, 0, none⟩), .slice A NL c, .int .i64 0, .int .i64 (a : Int), .int .i64 (b : Int)] W1 fun e w' => e = .returned (.agg (B8 D).toArray) ∧ Below w.heap.size w w') := Lh (by
    have := trow_any (w.heap.size + 1) w.heap.size A none L [] NL 0 c 0 0 (by omega) h0 hNL rfl hL (by simp) (by simp) (by omega) (b - a) a b (.slice none 0 0) RS.new W1 (Nat.le_refl _) hab (by omega) (by simp only [RS.new, List.length_nil]; omega) S1.out ⟨hr.below hb1, Rd.nil, ht.below hb1 ht.1⟩
    rw [rrow_tree L (b - a) a b RS.new (Nat.le_refl _) hab hb, ← hD] at this
    refine this.mono ?_
    rintro e w' ⟨rfl, v', _, F⟩
    exact ⟨rfl, hb1.trans (S1.out.belowT (by omega) F)⟩)
   have HW := Lh hW1
   have hbu := build16 D HDl.out
   have HDD := Lh (show sides node (leafAt lf L) first last a b = [D] by rw [HTD.out, hD])
   have hcs : b ≤ first ∨ (¬ b ≤ first ∧ last ≤ a) := by omega
   clear hc ih hr ht hW1 hb1 hD HTD hNL hL hln
   rcases hcs with hc | ⟨hc, hc'⟩
   ·
    have hcI : (b : Int) ≤ (first : Int) := by omega
    clear hc
    go_enter Tryd.func86, Tryd.ntmps86
    go_wp2_with fail
    rw [← HW.out]
    refine HC.out.mono ?_; rintro e w2 ⟨rfl, hb2⟩
    have P2 := Lh (World.ownsRow_lit (base := w.heap.size) (e := 29) (size := 16) w2 (B8 D).toArray 1 hb2.size (by decide) (by rw [List.size_toArray, B8_len, HDl.out]))
    have B2 := Lh (hb2.alloc hb2.size (.cells (B8 D).toArray 29))
    clear hb2 HC
    go_wp2_with (refine wpList_build16 rfl (.tmp 27) rfl D rfl HDl.out ?_)
    go_ret
    exact ⟨_, rfl, by rw [HDD.out]; simpa using P2.out, B2.out⟩
   ·
    have hcI : ¬ (b : Int) ≤ (first : Int) := by omega
    have hcJ : (last : Int) ≤ (a : Int) := by omega
    clear hc hc'
    go_enter Tryd.func86, Tryd.ntmps86
    go_wp2_with fail
    rw [← HW.out]
    refine HC.out.mono ?_; rintro e w2 ⟨rfl, hb2⟩
    have P2 := Lh (World.ownsRow_lit (base := w.heap.size) (e := 29) (size := 16) w2 (B8 D).toArray 1 hb2.size (by decide) (by rw [List.size_toArray, B8_len, HDl.out]))
    have B2 := Lh (hb2.alloc hb2.size (.cells (B8 D).toArray 29))
    clear hb2 HC
    go_wp2_with (refine wpList_build16 rfl (.tmp 27) rfl D rfl HDl.out ?_)
    go_ret
    exact ⟨_, rfl, by rw [HDD.out]; simpa using P2.out, B2.out⟩
  ·
   have hcI : ¬ (b : Int) ≤ (first : Int) := by omega
   have hcJ : ¬ (last : Int) ≤ (a : Int) := by omega
   by_cases h1 : 1 < b - a
   ·
    have hh1 := half_lt h1
    have hh0 := half_pos (b - a)
    obtain ⟨hh, hhh⟩ : ∃ q, q = half (b - a) := ⟨_, rfl⟩
    rw [sides_split node (leafAt lf L) hc h1]
    rw [← hhh] at hh1 hh0 ⊢
    have l1 := sides_le node (leafAt lf L) first last (b - a) a (a + hh) (by omega) (by omega)
    have l2 := sides_le node (leafAt lf L) first last (b - a) (a + hh) b (by omega) (by omega)
    have e1 := sides_each L first last (b - a) a (a + hh) (by omega)
    have e2 := sides_each L first last (b - a) (a + hh) b (by omega)
    have HI1 : Hid (Calls Tryd.prog 86 #[.slice A NL c, .int .i64 (first : Int), .int .i64 (last : Int), .int .i64 (a : Int), .int .i64 ((a : Int) + (hh : Int))] w (SidesP w (sides node (leafAt lf L) first last a (a + hh)))) := Lh (by
     have := ih a (a + hh) w (by omega) (by omega) (by omega) hr ht
     rw [show (a : Int) + (hh : Int) = ((a + hh : Nat) : Int) by omega]; exact this)
    have HI2 : Hid (∀ W, Below w.heap.size w W → Calls Tryd.prog 86 #[.slice A NL c, .int .i64 (first : Int), .int .i64 (last : Int), .int .i64 ((a : Int) + (hh : Int)), .int .i64 (b : Int)] W (SidesP W (sides node (leafAt lf L) first last (a + hh) b))) := Lh (fun W hW => by
     have := ih (a + hh) b W (by omega) (by omega) (by omega) ((hr.below hW).more hW.size) (ht.below hW ht.1)
     rw [show (a : Int) + (hh : Int) = ((a + hh : Nat) : Int) by omega]; exact this)
    have HHF : Hid (∀ W, Calls Tryd.prog 105 #[.int .i64 ((b : Int) - (a : Int))] W fun e w' => e = .returned (.int .i64 (hh : Int)) ∧ W = w') := Lh (fun W => by
     rw [hhh, show (b : Int) - (a : Int) = ((b - a : Nat) : Int) by omega]; exact half_any (b - a) W h1 (by omega))
    obtain ⟨S1, hS1⟩ : ∃ S, S = sides node (leafAt lf L) first last a (a + hh) := ⟨_, rfl⟩
    obtain ⟨S2, hS2⟩ : ∃ S, S = sides node (leafAt lf L) first last (a + hh) b := ⟨_, rfl⟩
    rw [← hS1] at l1 e1 HI1 ⊢
    rw [← hS2] at l2 e2 HI2 ⊢
    have hb1 : ((b : Int) - (a : Int) == 1) = false := by rw [beq_eq_false_iff_ne]; omega
    have hhb : (a : Int) + (hh : Int) ≤ 1073741824 := by omega
    have E2 := Lh e2
    have LL := Lh (show S1.length ≤ 100000 ∧ S2.length ≤ 100000 by omega)
    clear hc ih hr ht hNL hL hln hhh h1 e1 e2 hS1 hS2 l1 l2 hh0 hh1
    go_enter Tryd.func86, Tryd.ntmps86
    go_upto_region 7 with (go_at_call 105; refine (HHF.out _).mono ?_; rintro e wx ⟨rfl, rfl⟩)
    clear HHF
    obtain ⟨n1, hn1⟩ : ∃ n, n = S1.length := ⟨_, rfl⟩
    obtain ⟨n2, hn2⟩ : ∃ n, n = S2.length := ⟨_, rfl⟩
    have HN1 := Lh hn1
    have HN2 := Lh hn2
    clear hn1 hn2
    go_wp2_with fail
    refine HI1.out.mono ?_; rintro e w2 ⟨v1, rfl, ho1, hb1⟩
    have O1 := Lh ho1
    have B1 := Lh hb1
    clear ho1 hb1 HI1
    go_wp2_with fail
    refine (HI2.out w2 B1.out).mono ?_; rintro e w3 ⟨v2, rfl, ho2, hb2⟩
    obtain ⟨A2, c2, rfl, hn2, hc2, hr2⟩ := own_form ho2
    have O2 := Lh (own_below O1.out hb2)
    have B2 := Lh (B1.out.trans (hb2.mono B1.out.size))
    have R2 := Lh hr2
    have HC2 := Lh hc2
    clear ho2 hb2 hr2 HI2 hn2 hc2
    go_wp2_with (at_builtin; refine wpList_append_digs rfl (.tmp 44) (.tmp 50) rfl w.heap.size v1 S1.length (B8 S1.flatten) rfl O2.out A2 S2.length c2 _ S2 rfl HC2.out rfl E2.out R2.out (by have := LL.out; omega) B2.out.size ?_; intro v3 w4 ho4 hg4; have O4 := Lh ho4; have B4 := Lh (B2.out.grown hg4 B2.out.size (fun q hq => (O2.out.lt q hq).1)); clear ho4 hg4)
    go_ret
    exact ⟨_, rfl, by rw [List.length_append, List.flatten_append, B8_append]; exact O4.out, B4.out⟩
   ·
    have HTD := Lh (sides_one node (leafAt lf L) (first := first) (last := last) hc (by omega))
    rw [HTD.out]
    have hb1 : ((b : Int) - (a : Int) == 1) = true := by rw [beq_iff_eq]; omega
    clear hc ih hr ht hNL hL hln h1 HTD
    go_enter Tryd.func86, Tryd.ntmps86
    go_wp2_with fail
    go_ret
    exact ⟨_, rfl, World.ownsRow_nil _ _ _ _, Below.refl _ _⟩
end
theorem size54 : Hid ((Tryd.prog.info? 54).map (·.size) = some 4) := by unfold Hid; kernel_rfl
theorem size54L (a b : Int) (l s : Value) : (Tryd.prog.info? 54).map (·.size) = some (PR a b l s).length := by
 have : (PR a b l s).length = 4 := rfl
 rw [this]; exact size54.out
theorem size54A (a b : Int) (l s : Value) : (Tryd.prog.info? 54).map (·.size) = some (PR a b l s).toArray.size := size54L a b l s
theorem slice24 (A : Option Addr) (n c lo hi : Nat) (h1 : lo ≤ hi) (h2 : hi ≤ n) (h3 : n ≤ c) (W : World) :
  (Instr.sliceAt 24 (.slice A n c) (some (.int .i64 (lo : Int))) (some (.int .i64 (hi : Int))) none).run Tryd.prog W = .ok (.slice (if c = lo then A else A.map (·.add (lo * 2))) (hi - lo) (c - lo)) W := by
 have hu : Tryd.prog.underlying 24 = some (.slice (Tryd.prog.elem 24)) := by kernel_rfl
 have he : Tryd.prog.elem 24 = 87 := by kernel_rfl
 have h5 : (sizeOf 87).run Tryd.prog W = .ok 2 W := by kernel_rfl
 rw [run_sliceAt_slice W 24 _ _ _ _ hu, run_slice_lh W 24 A n c hu .i64 .i64 lo hi (by omega) (by omega) (by omega), he, h5]
 simp only [Result.andThen, sliced, Int.toNat_natCast]
theorem own_cell {W : World} {B e size n p i : Nat} {v u : Value} {xs : List Value} (h : W.ownsRow B e size v n xs) (hp : v.ownBlock ≠ some p) : (W.setCell ⟨p, i, none⟩ u).ownsRow B e size v n xs :=
 row_keep h (fun k _ hk => Below.heap_setCell _ _ _ _ (fun e => hp (by rw [hk, e])))
theorem own_setRow {W : World} {B e size n p : Nat} {v : Value} {xs : List Value} {cs : Array Value} (h : W.ownsRow B e size v n xs) (hp : v.ownBlock ≠ some p) : (W.setRow p cs).ownsRow B e size v n xs :=
 row_keep h (fun k _ hk => heap_setRow_other _ _ _ _ (fun e => hp (by rw [hk, e])))
theorem own_not {W : World} {B e size n p : Nat} {v : Value} {xs : List Value} (h : W.ownsRow B e size v n xs) (hp : p < B ∨ W.heap.size ≤ p) : v.ownBlock ≠ some p := fun e => by have := h.lt p e; omega
theorem proofV_of {b : Nat} {W : World} {p : Pf} {f n : Int} {A1 A2 : Option Addr} {n1 n2 c1 c2 : Nat} (h1 : W.ownsRow b 87 2 (.slice A1 n1 c1) n1 (LC p.leaves)) (h2 : W.ownsRow b 29 16 (.slice A2 n2 c2) n2 (B8 p.sides.flatten)) (e1 : p.leaves.length = n1) (e2 : p.sides.length = n2) (hf : p.first = f) (hn : p.size = n) (h16 : ∀ d ∈ p.sides, d.length = 16) :
  ProofV b W p (.agg (PR f n (.slice A1 n1 c1) (.slice A2 n2 c2)).toArray) := by
 subst e1 e2 hf hn
 obtain ⟨A', c', e, q1, q2, q3⟩ := own_form h1
 obtain ⟨A'', c'', e', q4, q5, q6⟩ := own_form h2
 cases e; cases e'
 exact ⟨_, _, _, _, rfl, ⟨q1, q2⟩, ⟨q4, q5⟩, q3, q6, ⟨fun ad e => (h1.lt ad.block (by rw [e]; rfl)).1, fun ad e => (h2.lt ad.block (by rw [e]; rfl)).1⟩, h16⟩
set_option maxHeartbeats 8000000 in
theorem rshown_any (A : Option Addr) (L : List Lf) (NL c first last : Nat) (w : World) (hNL : NL = L.length) (hfl : first ≤ last) (hl : last ≤ NL) (h : LsAt w w.heap.size A L c) (hln : L.length ≤ 100000) (ht : Tab 0 w) :
  Calls Tryd.prog 57 #[.slice A NL c, .int .i64 (first : Int), .int .i64 (last : Int)] w fun e w' => ∃ A1 n1 c1 A2 n2 c2, e = .returned (.agg (PR (first : Int) (NL : Int) (.slice A1 n1 c1) (.slice A2 n2 c2)).toArray) ∧ ProofV w.heap.size w' (shown node lf top L first last) (.agg (PR (first : Int) (NL : Int) (.slice A1 n1 c1) (.slice A2 n2 c2)).toArray) ∧ Below w.heap.size w w' := by
 have hZ := hZP
 obtain ⟨q, hq⟩ : ∃ q, q = w.heap.size := ⟨_, rfl⟩
 obtain ⟨AP, hAP⟩ : ∃ AP, AP = (if c = first then A else A.map (·.add (first * 2))) := ⟨_, rfl⟩
 have hcap : NL ≤ c := by rw [hNL]; exact h.cap
 have hsl := fun W => slice24 A NL c first last hfl hl hcap W
 rw [← hAP] at hsl
 have HSL := Lh hsl
 have hrp := rd_part h.rd c first last hfl (by omega) h.cap
 rw [← hAP] at hrp
 have HRP := Lh hrp
 have HNP := Lh (show AP = none → c - first = 0 by
  rw [hAP]
  split
  ·
   omega
  ·
   intro e
   have : A = none := by cases A with
    | none => rfl
    | some a => simp at e
   have := h.nil this; omega)
 obtain ⟨LP, hLP⟩ : ∃ P, P = cut L first last := ⟨_, rfl⟩
 rw [← hLP] at HRP
 have HLl := Lh (show LP.length = last - first by rw [hLP]; exact cut_len L first last (by omega))
 have HLP := Lh hLP
 have hNb : NL ≤ 100000 := by omega
 have HS := Lh (fun (W : World) (hb : Below w.heap.size w W) (h0 : 0 < NL) => show Calls Tryd.prog 86 #[.slice A NL c, .int .i64 (first : Int), .int .i64 (last : Int), .int .i64 0, .int .i64 (NL : Int)] W (SidesP W (sides node (leafAt lf L) first last 0 NL)) from
  sides_any A L NL c first last hNL h.ok hln (by omega) (by omega) NL 0 NL W (by omega) h0 (by omega) ((h.rd.below hb).more hb.size) (ht.below hb ht.1))
 have HSH := Lh (show (shown node lf top L first last).sides = if NL = 0 then [] else sides node (leafAt lf L) first last 0 NL by rw [shown_sides, hNL])
 have HE := Lh (sides_each L first last NL 0 NL (by omega))
 have HNL := Lh hNL
 have HB0 := Lh (((Below.refl w.heap.size w).alloc (Nat.le_refl _) (.cells ZP.toArray 54)).alloc (by simp) (.cells #[] 87))
 have HO0 := Lh (show ((w.alloc (.cells ZP.toArray 54)).alloc (.cells #[] 87)).ownsRow (w.heap.size + 1) 87 2 (.slice (some ⟨w.heap.size + 1, 0, none⟩) 0 0) 0 [] from by
  have := World.ownsRow_lit (base := w.heap.size + 1) (e := 87) (size := 2) (w.alloc (.cells ZP.toArray 54)) #[] 0 (by simp) (by decide) rfl
  simpa using this)
 have HZ0 := Lh ((Blk.new w 54 ZP).alloc (.cells #[] 87))
 clear h ht hNL hAP hrp hLP hsl hq
 go_enter Tryd.func57, Tryd.ntmps57
 have hsl := HSL.out
 go_upto_region 2 with (first
  | (at_builtin; refine wpList_append_leaves (T := 24) (e := 87) (by kernel_rfl) info87 rfl (.tmp 11) (.tmp 15) rfl (w.heap.size + 1) _ 0 [] rfl HO0.out AP (last - first) (c - first) w.heap.size LP rfl HNP.out HLl.out (HRP.out.below HB0.out) (by omega) (by simp) ?_; intro v1 w1 ho1 hg1; rw [Nat.zero_add] at ho1; have O1 := Lh ho1; have B1 := Lh (HB0.out.grown hg1 HB0.out.size (fun q hq => by have := (HO0.out.lt q hq).1; omega)); have Z1 := Lh (HZ0.out.grown hg1 (fun e => by have := (HO0.out.lt _ e.symm).1; omega)); obtain ⟨A1, c1, rfl, _, _, _⟩ := own_form O1.out; clear ho1 hg1)
  | (with_reducible refine wpList_store_row rfl 54 (.tmp 7) (.tmp 17) rfl w1.heap.size (PR (first : Int) (NL : Int) (.slice A1 (last - first) c1) (.slice none 0 0)).toArray rfl rfl 54 _ (heap_alloc_new w1 _) (size54A _ _ _ _) (ZP_PR _ _ _ _) (PR_one _ _ _ _ _ _ _ _) ?_))
 obtain ⟨W2, hW2⟩ : ∃ W, W = (w1.alloc (.cells ZP.toArray 54)).setRow w1.heap.size (PR (first : Int) (NL : Int) (.slice A1 (last - first) c1) (.slice none 0 0)).toArray := ⟨_, rfl⟩
 have hb2 : Below w1.heap.size w1 W2 := by rw [hW2]; exact belowRow ((Below.refl _ _).alloc (Nat.le_refl _) _) (Nat.le_refl _) _
 have B2 := Lh (B1.out.trans (hb2.mono B1.out.size))
 have Z2 := Lh (Z1.out.below hb2 Z1.out.lt)
 have O2 := Lh (own_below O1.out hb2)
 have P2 := Lh (show Blk W2 w1.heap.size 54 (PR (first : Int) (NL : Int) (.slice A1 (last - first) c1) (.slice none 0 0)) by rw [hW2]; exact (Blk.new w1 54 ZP).row _)
 have N2 := Lh (own_not O1.out (.inr (Nat.le_refl w1.heap.size)))
 have M2 := Lh (own_not (p := w.heap.size) O1.out (.inl (by omega)))
 have hpw : w.heap.size < w1.heap.size := Z1.out.lt
 have hWW := hW2.symm
 first | rw [hWW] | skip
 clear hW2 hb2 hWW hsl HSL HB0 HO0 HZ0 B1 Z1 O1 HRP HNP
 obtain ⟨p, hp⟩ : ∃ p, p = w1.heap.size := ⟨_, rfl⟩
 rw [← hp] at P2 N2 hpw ⊢
 clear hp
 rcases Nat.eq_zero_or_pos NL with h0 | h0
 ·
  have e0 : (NL : Int) = 0 := by omega
  rw [e0] at P2 ⊢
  have E0 := Lh e0
  have H0 := Lh h0
  subst h0
  clear e0
  have Z2h := Lh (show W2.heap[w.heap.size]? = some (.cells ZP.toArray 54 (0, 0)) from Z2.out)
  go_wp2_with (first
   | (refine wpList_load_at rfl 54 (.tmp 7) rfl ⟨p, 0, none⟩ rfl (PR (first : Int) 0 (.slice A1 (last - first) c1) (.slice none 0 0)) _ P2.out.at Tryd.underlying54 rfl (size54L _ _ _ _) ?_)
   | (with_reducible refine wpList_store_row rfl 54 (.tmp 6) (.tmp 28) rfl w.heap.size (PR (first : Int) 0 (.slice A1 (last - first) c1) (.slice none 0 0)).toArray rfl rfl 54 _ Z2h.out (size54A _ _ _ _) (ZP_PR _ _ _ _) (PR_one _ _ _ _ _ _ _ _) ?_))
  refine bodyPost_ret (v := .agg (PR (first : Int) 0 (.slice A1 (last - first) c1) (.slice none 0 0)).toArray) ?_ rfl ⟨_, _, _, _, _, _, rfl, ?_, belowRow B2.out (Nat.le_refl _) _⟩
  ·
   have hr := run_loadVar_row (P := Tryd.prog) _ w.heap.size 54 54 (PR (first : Int) 0 (.slice A1 (last - first) c1) (.slice none 0 0)).toArray (0, 0) _ (heap_setRow W2 w.heap.size _ _ 54 Z2h.out) Tryd.underlying54 rfl (size54A _ _ _ _)
   simp [results, asAddr, hr]
  ·
   have hs : (shown node lf top L first last).sides = [] := by rw [HSH.out]; simp
   refine proofV_of (by rw [show (shown node lf top L first last).leaves = LP from HLP.out.symm]; exact (own_base (own_setRow O2.out M2.out) (by omega))) (by rw [hs]; exact World.ownsRow_nil _ _ _ _) (by show (cut L first last).length = _; rw [← HLP.out]; exact HLl.out) (by rw [hs]; rfl) rfl (by show ((L.length : Nat) : Int) = _; rw [← HNL.out]; rfl) (by rw [hs]; simp)
 ·
  have hn0 : (0 : Int) < (NL : Int) := by omega
  obtain ⟨S, hS⟩ : ∃ S, S = sides node (leafAt lf L) first last 0 NL := ⟨_, rfl⟩
  have HSC := Lh (HS.out W2 B2.out h0)
  rw [← hS] at HSC
  have HSS := Lh (show (shown node lf top L first last).sides = S by rw [HSH.out, if_neg (by omega), hS])
  have HSE := Lh (show ∀ d ∈ S, d.length = 16 by rw [hS]; exact HE.out)
  clear hS HSH HE HS
  go_upto_region 3 with fail
  go_wp2_with fail
  refine HSC.out.mono ?_; rintro e w3 ⟨v2, rfl, ho3, hb3⟩
  obtain ⟨A2, c2, rfl, _, _, _⟩ := own_form ho3
  have O3 := Lh ho3
  have N3 := Lh (own_not (p := p) ho3 (.inl P2.out.lt))
  have M3 := Lh (own_not (p := w.heap.size) ho3 (.inl Z2.out.lt))
  have B3 := Lh (B2.out.trans (hb3.mono B2.out.size))
  have Z3 := Lh (Z2.out.below hb3 Z2.out.lt)
  have L3 := Lh (own_below O2.out hb3)
  have P3 := Lh (P2.out.below hb3 P2.out.lt)
  have hBw := B2.out.size
  obtain ⟨m, hm⟩ : ∃ m, m = S.length := ⟨_, rfl⟩
  rw [← hm] at O3 N3 M3 ⊢
  have HM := Lh hm
  clear ho3 hb3 HSC hm
  have c3 : w3.cell? ⟨p, 3, none⟩ = some (.slice none 0 0) := (P3.out.cell 3).trans rfl
  have f3 : w3.frozen? ⟨p, 3, none⟩ = false := P3.out.frozen 3
  go_upto_region 4 with fail
  obtain ⟨W4, hW4⟩ : ∃ W, W = w3.setCell ⟨p, 3, none⟩ (.slice A2 m c2) := ⟨_, rfl⟩
  have P4 := Lh (show Blk W4 p 54 (PR (first : Int) (NL : Int) (.slice A1 (last - first) c1) (.slice A2 m c2)) by rw [hW4]; exact P3.out.put 3 _)
  have Z4 := Lh (show Blk W4 w.heap.size 54 ZP by rw [hW4]; exact Z3.out.far (p := ⟨p, 3, none⟩) (by show w.heap.size ≠ p; omega) _)
  have L4 := Lh (show W4.ownsRow (w.heap.size + 1) 87 2 (.slice A1 (last - first) c1) (last - first) (LC LP) by rw [hW4]; exact own_cell L3.out N2.out)
  have O4 := Lh (show W4.ownsRow W2.heap.size 29 16 (.slice A2 m c2) m (B8 S.flatten) by rw [hW4]; exact own_cell O3.out N3.out)
  have B4 := Lh (show Below w.heap.size w W4 by rw [hW4]; exact B3.out.setCell (p := ⟨p, 3, none⟩) (by show w.heap.size ≤ p; omega) _)
  have Z4h := Lh (show W4.heap[w.heap.size]? = some (.cells ZP.toArray 54 (0, 0)) from Z4.out)
  rw [← hW4]
  clear hW4 c3 f3 P3 Z3 L3 O3 B3
  go_wp2_with (first
   | (refine wpList_load_at rfl 54 (.tmp 7) rfl ⟨p, 0, none⟩ rfl (PR (first : Int) (NL : Int) (.slice A1 (last - first) c1) (.slice A2 m c2)) _ P4.out.at Tryd.underlying54 rfl (size54L _ _ _ _) ?_)
   | (with_reducible refine wpList_store_row rfl 54 (.tmp 6) (.tmp 28) rfl w.heap.size (PR (first : Int) (NL : Int) (.slice A1 (last - first) c1) (.slice A2 m c2)).toArray rfl rfl 54 _ Z4h.out (size54A _ _ _ _) (ZP_PR _ _ _ _) (PR_one _ _ _ _ _ _ _ _) ?_))
  refine bodyPost_ret (v := .agg (PR (first : Int) (NL : Int) (.slice A1 (last - first) c1) (.slice A2 m c2)).toArray) ?_ rfl ⟨_, _, _, _, _, _, rfl, ?_, belowRow B4.out (Nat.le_refl _) _⟩
  ·
   have hr := run_loadVar_row (P := Tryd.prog) _ w.heap.size 54 54 (PR (first : Int) (NL : Int) (.slice A1 (last - first) c1) (.slice A2 m c2)).toArray (0, 0) _ (heap_setRow W4 w.heap.size _ _ 54 Z4h.out) Tryd.underlying54 rfl (size54A _ _ _ _)
   simp [results, asAddr, hr, Act.put]
  ·
   refine proofV_of (by rw [show (shown node lf top L first last).leaves = LP from HLP.out.symm]; exact (own_base (own_setRow L4.out M2.out) (by omega))) (by rw [HSS.out]; exact (own_base (own_setRow O4.out M3.out) (by omega))) (by show (cut L first last).length = _; rw [← HLP.out]; exact HLl.out) (by rw [HSS.out, HM.out]) rfl (by show ((L.length : Nat) : Int) = _; rw [HNL.out]) (by rw [HSS.out]; exact HSE.out)
theorem has_s (A : Option Addr) (L : List Lf) (c : Nat) (key : ByteArray) (w : World) (hl : L.length ≤ 1073741824) (hr : Rd w w.heap.size A (LC L)) :
  Calls Tryd.prog 43 #[.slice A L.length c, .string key] w fun e w' => e = .returned (.int .i64 (hasI L key)) ∧ w = w' := (has_any A L c key w hl hr).mono fun e w' ⟨h1, h2⟩ => ⟨h1, h2.symm⟩
theorem from_s (A : Option Addr) (L : List Lf) (c : Nat) (key : ByteArray) (w : World) (hl : L.length ≤ 1073741824) (hr : Rd w w.heap.size A (LC L)) :
  Calls Tryd.prog 56 #[.slice A L.length c, .string key] w fun e w' => e = .returned (.int .i64 (cb L key : Nat)) ∧ w = w' := (from_any A L c key w hl hr).mono fun e w' ⟨h1, h2⟩ => ⟨h1, h2.symm⟩
def ShownP (w : World) (p : Pf) (f n : Int) (e : Ending) (w' : World) : Prop := ∃ A1 n1 c1 A2 n2 c2, e = .returned (.agg (PR f n (.slice A1 n1 c1) (.slice A2 n2 c2)).toArray) ∧ ProofV w.heap.size w' p (.agg (PR f n (.slice A1 n1 c1) (.slice A2 n2 c2)).toArray) ∧ Below w.heap.size w w'
theorem shown_s (A : Option Addr) (L : List Lf) (NL c first last : Nat) (f l : Int) (w : World) (hNL : NL = L.length) (hf : f = (first : Int)) (hl0 : l = (last : Int)) (hfl : first ≤ last) (hl : last ≤ NL) (h : LsAt w w.heap.size A L c) (hln : L.length ≤ 100000) (ht : Tab 0 w) :
  Calls Tryd.prog 57 #[.slice A NL c, .int .i64 f, .int .i64 l] w (ShownP w (shown node lf top L first last) f (NL : Int)) := by
 subst hf hl0
 exact rshown_any A L NL c first last w hNL hfl hl h hln ht
theorem proof_end {w w4 : World} {p : Pf} {f n : Int} {A1 A2 : Option Addr} {n1 c1 n2 c2 : Nat} {c : Array Value} {b : Nat} (hb : w.heap.size < b) (hp : ProofV b w4 p (.agg (PR f n (.slice A1 n1 c1) (.slice A2 n2 c2)).toArray)) : ProofV w.heap.size (w4.setRow w.heap.size c) p (.agg (PR f n (.slice A1 n1 c1) (.slice A2 n2 c2)).toArray) :=
 (hp.keep (by simp) (fun k hk hb2 => heap_setRow_other _ _ _ _ (by omega))).mono (by omega)
set_option maxHeartbeats 8000000 in
theorem rprove_any (A : Option Addr) (L : List Lf) (c : Nat) (key : ByteArray) (w : World) (h : LsAt w w.heap.size A L c) (hln : L.length ≤ 100000) (ht : Tab 0 w) :
  Calls Tryd.prog 23 #[.slice A L.length c, .string key] w fun e w' => ∃ v, e = .returned (.tuple #[v, .int .i64 (validE L)]) ∧ ProofV w.heap.size w' (proveR node lf top L key).1 v ∧ Below w.heap.size w w' := by
 have hZ := hZP
 obtain ⟨W1, hW1⟩ : ∃ W, W = w.alloc (.cells ZP.toArray 54) := ⟨_, rfl⟩
 have K1 := Lh (Kz.first hW1)
 have HW := Lh hW1
 have H := Lh h
 have HT := Lh ht
 have HLN := Lh hln
 obtain ⟨V, hV⟩ : ∃ V, V = validE L := ⟨_, rfl⟩
 have HV := Lh (rvalid_any A L c W1 h.ok ((h.below K1.out.b).more K1.out.b.size).rd)
 obtain ⟨NL, hNL⟩ : ∃ n, n = L.length := ⟨_, rfl⟩
 rw [← hV, ← hNL] at HV
 have HVE := Lh hV
 have HNL := Lh hNL
 rw [← hV, ← hNL]
 clear h ht hln hW1 hV hNL
 by_cases hv : V = 0
 ·
  subst hv
  obtain ⟨v1, v2, v3⟩ := valid_ok HVE.out.symm
  obtain ⟨n, hn⟩ : ∃ n, n = cb L key := ⟨_, rfl⟩
  have hnl : n ≤ NL := by rw [hn, HNL.out]; exact cb_le L key
  have hNb : NL ≤ 4096 := by rw [HNL.out]; exact v1
  have HC := Lh (fun (W : World) (hb : Below w.heap.size w W) => show Calls Tryd.prog 56 #[.slice A NL c, .string key] W fun e w' => e = .returned (.int .i64 (n : Int)) ∧ W = w' from by
   rw [hn, HNL.out]; exact from_s A L c key W H.out.ok.1 ((H.out.below hb).more hb.size).rd)
  by_cases hit : hitB L key = true
  ·
   have hlt : n < NL := by
    unfold hitB at hit
    rw [Bool.and_eq_true, decide_eq_true_eq] at hit
    rw [hn, HNL.out]; exact hit.1
   have HH := Lh (fun (W : World) (hb : Below w.heap.size w W) => show Calls Tryd.prog 43 #[.slice A NL c, .string key] W fun e w' => e = .returned (.int .i64 (n : Int)) ∧ W = w' from by
    rw [hn, ← has_hit L key v3 hit, HNL.out]; exact has_s A L c key W H.out.ok.1 ((H.out.below hb).more hb.size).rd)
   have HR := Lh (show (proveR node lf top L key).1 = shown node lf top L n (n + 1) by
    unfold proveR; rw [if_pos HVE.out.symm, if_pos hit, ← hn])
   have HSW := Lh (fun (W : World) (hb : Below w.heap.size w W) => shown_s A L NL c n (n + 1) (n : Int) ((n : Int) + 1) W HNL.out rfl (by omega) (by omega) (by omega) ((H.out.below hb).more hb.size) HLN.out (HT.out.below hb HT.out.1))
   have i0 : (0 : Int) ≤ (n : Int) := by omega
   clear hn hit v1 v2 v3
   go_enter Tryd.func23, Tryd.ntmps23
   go_upto_region 4 with (go_at_call 16; rw [← HW.out]; refine HV.out.mono ?_; rintro e w2 ⟨rfl, hb2⟩; have HB2 := Lh hb2; clear hb2)
   have K3 := Lh (K1.out.below HB2.out)
   go_upto_region 6 with (first
    | (go_at_call 56; refine (HC.out _ K3.out.b).mono ?_; rintro e wx ⟨rfl, rfl⟩)
    | (go_at_call 43; refine (HH.out _ K3.out.b).mono ?_; rintro e wx ⟨rfl, rfl⟩))
   clear HC HH HV HB2
   go_wp2_with fail
   refine (HSW.out _ K3.out.b).mono ?_; rintro e w4 ⟨A1, n1, c1, A2, n2, c2, rfl, hp4, hb4⟩
   have K4 := Lh (K3.out.below hb4)
   have Z4 := Lh (show w4.heap[w.heap.size]? = some (.cells ZP.toArray 54 (0, 0)) from K4.out.z)
   have HP4 := Lh hp4
   have L3 := Lh K3.out.z.lt
   clear hp4 hb4
   go_wp2_with (with_reducible refine wpList_store_row rfl 54 (.tmp 4) (.tmp 25) rfl w.heap.size _ rfl rfl 54 _ Z4.out (size54A _ _ _ _) (ZP_PR _ _ _ _) (PR_one _ _ _ _ _ _ _ _) ?_)
   refine bodyPost_ret (v := .tuple #[.agg (PR (n : Int) (NL : Int) (.slice A1 n1 c1) (.slice A2 n2 c2)).toArray, .int .i64 0]) ?_ rfl ⟨_, rfl, by rw [HR.out]; exact proof_end L3.out HP4.out, belowRow K4.out.b (Nat.le_refl _) _⟩
   have hr := run_loadVar_row (P := Tryd.prog) _ w.heap.size 54 54 (PR (n : Int) (NL : Int) (.slice A1 n1 c1) (.slice A2 n2 c2)).toArray (0, 0) _ (heap_setRow w4 w.heap.size (PR (n : Int) (NL : Int) (.slice A1 n1 c1) (.slice A2 n2 c2)).toArray _ 54 Z4.out) Tryd.underlying54 rfl (size54A _ _ _ _)
   simp [results, Tryd.results23, asAddr, hr]
  ·
   obtain ⟨lo, hlo⟩ : ∃ lo, lo = n - 1 := ⟨_, rfl⟩
   obtain ⟨hi, hhi⟩ : ∃ hi, hi = min (n + 1) NL := ⟨_, rfl⟩
   have HH := Lh (fun (W : World) (hb : Below w.heap.size w W) => show Calls Tryd.prog 43 #[.slice A NL c, .string key] W fun e w' => e = .returned (.int .i64 (-1)) ∧ W = w' from by
    rw [← has_miss L key v3 (by simpa using hit), HNL.out]; exact has_s A L c key W H.out.ok.1 ((H.out.below hb).more hb.size).rd)
   have HR := Lh (show (proveR node lf top L key).1 = shown node lf top L lo hi by
    unfold proveR; rw [if_pos HVE.out.symm, if_neg hit, ← hn, hlo, hhi, HNL.out])
   have HSW := Lh (fun (W : World) (hb : Below w.heap.size w W) => shown_s A L NL c lo hi (max ((n : Int) - 1) 0) (min ((n : Int) + 1) (NL : Int)) W HNL.out (by omega) (by omega) (by omega) (by omega) ((H.out.below hb).more hb.size) HLN.out (HT.out.below hb HT.out.1))
   have hnb : (n : Int) ≤ 1073741824 := by omega
   clear hn hit v1 v2 v3 hlo hhi
   go_enter Tryd.func23, Tryd.ntmps23
   go_upto_region 4 with (go_at_call 16; rw [← HW.out]; refine HV.out.mono ?_; rintro e w2 ⟨rfl, hb2⟩; have HB2 := Lh hb2; clear hb2)
   have K3 := Lh (K1.out.below HB2.out)
   go_upto_region 7 with (first
    | (go_at_call 56; refine (HC.out _ K3.out.b).mono ?_; rintro e wx ⟨rfl, rfl⟩)
    | (go_at_call 43; refine (HH.out _ K3.out.b).mono ?_; rintro e wx ⟨rfl, rfl⟩))
   clear HC HH HV HB2
   go_wp2_with fail
   refine (HSW.out _ K3.out.b).mono ?_; rintro e w4 ⟨A1, n1, c1, A2, n2, c2, rfl, hp4, hb4⟩
   have K4 := Lh (K3.out.below hb4)
   have Z4 := Lh (show w4.heap[w.heap.size]? = some (.cells ZP.toArray 54 (0, 0)) from K4.out.z)
   have HP4 := Lh hp4
   have L3 := Lh K3.out.z.lt
   clear hp4 hb4
   go_wp2_with (with_reducible refine wpList_store_row rfl 54 (.tmp 4) (.tmp 35) rfl w.heap.size _ rfl rfl 54 _ Z4.out (size54A _ _ _ _) (ZP_PR _ _ _ _) (PR_one _ _ _ _ _ _ _ _) ?_)
   refine bodyPost_ret (v := .tuple #[.agg (PR (max ((n : Int) - 1) 0) (NL : Int) (.slice A1 n1 c1) (.slice A2 n2 c2)).toArray, .int .i64 0]) ?_ rfl ⟨_, rfl, by rw [HR.out]; exact proof_end L3.out HP4.out, belowRow K4.out.b (Nat.le_refl _) _⟩
   have hr := run_loadVar_row (P := Tryd.prog) _ w.heap.size 54 54 (PR (max ((n : Int) - 1) 0) (NL : Int) (.slice A1 n1 c1) (.slice A2 n2 c2)).toArray (0, 0) _ (heap_setRow w4 w.heap.size (PR (max ((n : Int) - 1) 0) (NL : Int) (.slice A1 n1 c1) (.slice A2 n2 c2)).toArray _ 54 Z4.out) Tryd.underlying54 rfl (size54A _ _ _ _)
   simp [results, Tryd.results23, asAddr, hr]
 ·
  have c61 : (V == 0) = false := by rw [beq_eq_false_iff_ne]; exact hv
  have HR := Lh (show (proveR node lf top L key).1 = noPf by unfold proveR; rw [if_neg (by rw [← HVE.out]; exact hv)])
  have ZS := Lh (show (Tryd.prog.info? 54).map (·.size) = some ZP.toArray.size from size54A _ _ _ _)
  clear hv
  go_enter Tryd.func23, Tryd.ntmps23
  go_upto_region 3 with (go_at_call 16; rw [← HW.out]; refine HV.out.mono ?_; rintro e w2 ⟨rfl, hb2⟩; have HB2 := Lh hb2; clear hb2)
  have K2 := Lh (K1.out.below HB2.out)
  have Z5 := Lh (show w2.heap[w.heap.size]? = some (.cells ZP.toArray 54 (0, 0)) from K2.out.z)
  go_wp2_with (with_reducible refine wpList_store_row rfl 54 (.tmp 4) (.tmp 12) rfl w.heap.size ZP.toArray rfl rfl 54 _ Z5.out ZS.out rfl ZP_one ?_)
  refine bodyPost_ret (v := .tuple #[.agg ZP.toArray, .int .i64 V]) ?_ rfl ⟨_, rfl, by rw [HR.out]; exact noPf_V _ _, belowRow K2.out.b (Nat.le_refl _) _⟩
  have hr := run_loadVar_row (P := Tryd.prog) _ w.heap.size 54 54 ZP.toArray (0, 0) _ (heap_setRow w2 w.heap.size ZP.toArray _ 54 Z5.out) Tryd.underlying54 rfl ZS.out
  simp [results, Tryd.results23, asAddr, hr]
end Go.Proofs.YtofccgkgjcnfbaaDoor
