/-
  The mathematics of the statements Sound and Binds; SameLeaves of any two lists.
  Conditions: leaves of at most 2^30 bytes.
-/
import Derived.Test.YtofccgkgjcnfbaaDoorGen
import Derived.Test.YtofccgkgjcnfbaaDoorApis
import Derived.BigQuiet
import Derived.Test.YtofccgkgjcnfbaaDoorRTrees
namespace Go.Proofs.YtofccgkgjcnfbaaDoor
open Go.RowKit Wr Sh
set_option linter.unusedVariables false
set_option maxRecDepth 100000

theorem neq_str {x y : ByteArray} (h : x ≠ y) : (x.toList == y.toList) = false := by rw [beq_eq_false_iff_ne]; exact fun e => h (str_ext e)
set_option maxHeartbeats 4000000 in
theorem same2_any (A B : Option Addr) (L P : List Lf) (N M c d : Nat) (w : World) (hN : N = L.length) (hM : M = P.length) (hl : N ≤ 1073741824) (hr : Rd w w.heap.size A (LC L)) (hs : Rd w w.heap.size B (LC P)) :
    Calls Tryd.prog 34 #[.slice A N c, .slice B M d] w fun e w' => e = .returned (.bool (decide (L = P))) ∧ Below w.heap.size w w' := by
  by_cases hNM : N = M
  · subst hNM
    have HN := Lib.hid hN
    have HM := Lib.hid hM
    have HR := Lib.hid hr
    have HS := Lib.hid hs
    clear hN hM hr hs
    go_enter Tryd.func34, Tryd.ntmps34
    go_wp2
    go_loopw [5] (fun s5 wr => ∃ j : Nat, j ≤ N ∧ s5 = .int .i64 j ∧ Hid (L.take j = P.take j) ∧ Hid (Below w.heap.size w wr))
      (fun s5 _ => N - (intOf s5).toNat)
    case atStart => exact ⟨0, Nat.zero_le _, rfl, Lib.hid rfl, Lib.hid (Below.refl _ _)⟩
    case round =>
      obtain ⟨j, hj, rfl, HT, HB⟩ := hrel
      by_cases hlt : j < N
      · have hjl : j < L.length := by have := HN.out; omega
        have hjp : j < P.length := by have := HM.out; omega
        obtain ⟨g, o, rfl, hg, hcell⟩ := (HR.out.below HB.out) (by intro e; have := congrArg List.length e; rw [LC_len] at this; simp only [List.length_nil] at this; omega)
        obtain ⟨g2, o2, rfl, hg2, hcell2⟩ := (HS.out.below HB.out) (by intro e; have := congrArg List.length e; rw [LC_len] at this; simp only [List.length_nil] at this; omega)
        have hc1 := hcell _ _ (LC_at L j hjl).1
        have hc2 := hcell _ _ (LC_at L j hjl).2
        have hc3 := hcell2 _ _ (LC_at P j hjp).1
        have hc4 := hcell2 _ _ (LC_at P j hjp).2
        obtain ⟨x, hx⟩ : ∃ x, x = L[j] := ⟨_, rfl⟩
        obtain ⟨y, hy⟩ : ∃ y, y = P[j] := ⟨_, rfl⟩
        rw [← hx] at hc1 hc2
        rw [← hy] at hc3 hc4
        have HX := Lib.hid hx
        have HY := Lib.hid hy
        obtain ⟨x1, x2⟩ := x
        obtain ⟨y1, y2⟩ := y
        simp only at hc1 hc2 hc3 hc4
        rw [← Nat.add_assoc] at hc2 hc4
        have i1 : (j : Int) < (N : Int) := by omega
        clear hcell hcell2 hx hy hg hg2
        by_cases h1 : x1 = y1
        · subst h1
          have e1 : (x1.toList == x1.toList) = true := by simp
          by_cases h2 : x2 = y2
          · subst h2
            have e2 : (x2.toList == x2.toList) = true := by simp
            have HQ := Lib.hid (show L.take (j + 1) = P.take (j + 1) by rw [List.take_succ_eq_append_getElem hjl, List.take_succ_eq_append_getElem hjp, ← HX.out, ← HY.out, HT.out])
            clear hjl hjp HX HY HT
            go_wp2
            go_quiet (fail)
            go_wp2
            go_roundw
            case rel => exact ⟨j + 1, by omega, by go_num, HQ, Lib.hid (below_drewN HB.out _)⟩
            case measure => simp only [intOf]; omega
          · have e2 := neq_str h2
            have HF := Lib.hid (show decide (L = P) = false from decide_eq_false (fun e => h2 (by
              have : L[j] = P[j] := by simp only [e]
              rw [← HX.out, ← HY.out] at this
              exact (Prod.mk.inj this).2)))
            clear hjl hjp HX HY HT h2
            go_wp2
            go_quiet (fail)
            go_wp2
            go_ret
            exact ⟨by rw [HF.out]; rfl, below_drewN HB.out _⟩
        · have e1 := neq_str h1
          have HF := Lib.hid (show decide (L = P) = false from decide_eq_false (fun e => h1 (by
            have : L[j] = P[j] := by simp only [e]
            rw [← HX.out, ← HY.out] at this
            exact (Prod.mk.inj this).1)))
          clear hjl hjp HX HY HT h1
          go_wp2
          go_quiet (fail)
          go_wp2
          go_ret
          exact ⟨by rw [HF.out]; rfl, below_drewN HB.out _⟩
      · obtain rfl : j = N := by omega
        have HF := Lib.hid (show decide (L = P) = true from decide_eq_true (by
          have := HT.out
          rw [List.take_of_length_le (by have := HN.out; omega), List.take_of_length_le (by have := HM.out; omega)] at this
          exact this))
        go_wp2
        go_ret
        exact ⟨by rw [HF.out]; rfl, HB.out⟩
  · have HF := Lib.hid (show decide (L = P) = false from decide_eq_false (fun e => hNM (by rw [hN, hM, e])))
    have e1 : ((N : Int) == (M : Int)) = false := by rw [beq_eq_false_iff_ne]; omega
    clear hN hM hr hs
    go_enter Tryd.func34, Tryd.ntmps34
    go_wp2
    go_ret
    exact ⟨by rw [HF.out]; rfl, Below.refl _ _⟩
end Go.Proofs.YtofccgkgjcnfbaaDoor

namespace Go.Proofs.YtofccgkgjcnfbaaDoor
open Go.RowKit Wr Sh
set_option linter.unusedVariables false
set_option maxRecDepth 100000

theorem flat_inj : ∀ (a b : List (List UInt8)), (∀ x ∈ a, x.length ≤ 9223372036854775807) → (∀ x ∈ b, x.length ≤ 9223372036854775807) → (a.map encStr).flatten = (b.map encStr).flatten → a = b := by
  intro a
  induction a with
  | nil =>
    intro b _ _ h
    cases b with
    | nil => rfl
    | cons y b =>
      have h1 := congrArg List.length h
      have := encStr_len y
      simp only [List.map_nil, List.flatten_nil, List.map_cons, List.flatten_cons, List.length_nil, List.length_append] at h1
      omega
  | cons x a ih =>
    intro b ha hb h
    cases b with
    | nil =>
      have h1 := congrArg List.length h
      have := encStr_len x
      simp only [List.map_nil, List.flatten_nil, List.map_cons, List.flatten_cons, List.length_nil, List.length_append] at h1
      omega
    | cons y b =>
      rw [List.map_cons, List.map_cons, List.flatten_cons, List.flatten_cons] at h
      have h1 := decStr_enc x (a.map encStr).flatten (ha x (by simp))
      have h2 := decStr_enc y (b.map encStr).flatten (hb y (by simp))
      rw [h, h2] at h1
      obtain rfl : y = x := (Prod.mk.inj h1).1
      have h3 := List.append_cancel_left h
      rw [ih b (fun z hz => ha z (by simp [hz])) (fun z hz => hb z (by simp [hz])) h3]
theorem inp_inj (t u : UInt8) (a b : List ByteArray) (ha : ∀ x ∈ a, x.size ≤ 9223372036854775807) (hb : ∀ x ∈ b, x.size ≤ 9223372036854775807) (h : inp t a = inp u b) : t = u ∧ a = b := by
  unfold inp at h
  obtain ⟨h1, h2⟩ := List.cons.inj h
  refine ⟨h1, ?_⟩
  have e : ∀ l : List ByteArray, (l.map fun s => encStr s.data.toList) = ((l.map fun s => s.data.toList).map encStr) := by intro l; simp
  rw [e, e] at h2
  have h3 := flat_inj _ _ (by
    intro x hx; obtain ⟨s, hs, rfl⟩ := List.mem_map.1 hx; rw [size_list]; exact ha s hs) (by
    intro x hx; obtain ⟨s, hs, rfl⟩ := List.mem_map.1 hx; rw [size_list]; exact hb s hs) h2
  have hinj : Function.Injective (fun s : ByteArray => s.data.toList) := by
    intro s r hsr
    cases s with | mk ds => cases r with | mk dr =>
    have : ds = dr := Array.toList_inj.1 hsr
    rw [this]
  exact (List.map_inj_right (fun x y hxy => hinj hxy)).1 h3
/-- The digest of a text. -/
def digB (t : ByteArray) : List UInt8 := (sha t.data.toList).take 16
theorem dof_dig (t : UInt8) (l : List ByteArray) : dof t l = digB (txt t l) := by unfold dof digB txt; rw [bs_list]
theorem bs_inj {a b : List UInt8} (h : bs a = bs b) : a = b := by
  have := congrArg (fun x : ByteArray => x.data.toList) h
  simpa [bs_list] using this
theorem txt_inj (t : UInt8) (a b : List ByteArray) (ha : ∀ x ∈ a, x.size ≤ 9223372036854775807) (hb : ∀ x ∈ b, x.size ≤ 9223372036854775807) (h : txt t a = txt t b) : a = b :=
  (inp_inj t t a b ha hb (bs_inj h)).2
theorem enc_one (m n : Int) (hm : okInt m) (hn : okInt n) (h : enc m = enc n) : m = n := by
  have h1 := decInt_enc m [] hm.1 hm.2
  have h2 := decInt_enc n [] hn.1 hn.2
  rw [h, h2] at h1
  exact (Prod.mk.inj h1).1.symm
/-- Two different texts with the same digest. -/
def Clash (T : List ByteArray) : Prop := ∃ x ∈ T, ∃ y ∈ T, x ≠ y ∧ digB x = digB y
theorem noclash {T : List ByteArray} (h : ¬ Clash T) {x y : ByteArray} (hx : x ∈ T) (hy : y ∈ T) (e : digB x = digB y) : x = y := by
  apply Classical.byContradiction
  intro hne
  exact h ⟨x, hx, y, hy, hne, e⟩
section
variable {L P : List Lf} {f : Nat} {S : List (List UInt8)}
theorem rrow_mono (L : List Lf) (first : Nat) (S : List (List UInt8)) (n : Nat) : ∀ (a b : Nat) (s : RS), b - a ≤ n → ∀ x ∈ s.texts, x ∈ (rrow L first S s a b).2.texts := by
  induction n with
  | zero =>
    intro a b s h x hx
    by_cases hc : b ≤ first ∨ first + L.length ≤ a
    · rw [rrow_told L first S hc]; unfold RS.take; split <;> exact hx
    · rw [rrow_one L first S hc (by omega)]; simp [RS.add, hx]
  | succ n ih =>
    intro a b s h x hx
    by_cases hc : b ≤ first ∨ first + L.length ≤ a
    · rw [rrow_told L first S hc]; unfold RS.take; split <;> exact hx
    · by_cases h1 : 1 < b - a
      · have := half_lt h1
        have := half_pos (b - a)
        rw [rrow_split L first S hc h1]
        simp only [RS.add, List.mem_append]
        exact .inl (ih _ _ _ (by omega) x (ih _ _ _ (by omega) x hx))
      · rw [rrow_one L first S hc (by omega)]; simp [RS.add, hx]
/-- Rows with the same digest have the same leaves. -/
theorem row_bind {T : List ByteArray} (hT : ¬ Clash T) (hL : okL L) (hP : okL P) (hS : ∀ d ∈ S, d.length = 16) (n : Nat) : ∀ (a b : Nat) (s s' : RS), b - a ≤ n → a < b → b ≤ L.length →
    (∀ x ∈ (rrow L 0 [] s a b).2.texts, x ∈ T) → (∀ x ∈ (rrow P f S s' a b).2.texts, x ∈ T) → (rrow L 0 [] s a b).1 = (rrow P f S s' a b).1 → ∀ i, a ≤ i → i < b → f ≤ i → i < f + P.length → P[i - f]? = L[i]? := by
  induction n with
  | zero => intro a b s s' h h2; omega
  | succ n ih =>
    intro a b s s' h hab hb h1 h2 he i hai hib hfi hip
    by_cases hl : 1 < b - a
    · have hc : ¬ (b ≤ f ∨ f + P.length ≤ a) := by omega
      have hh1 := half_lt hl
      have hh0 := half_pos (b - a)
      rw [rrow_split L 0 [] (by omega) hl] at h1 he
      rw [rrow_split P f S hc hl] at h2 he
      have l1 := rrow_len L 0 [] (by simp) s a (a + half (b - a))
      have l2 := rrow_len L 0 [] (by simp) (rrow L 0 [] s a (a + half (b - a))).2 (a + half (b - a)) b
      have l3 := rrow_len P f S hS s' a (a + half (b - a))
      have l4 := rrow_len P f S hS (rrow P f S s' a (a + half (b - a))).2 (a + half (b - a)) b
      simp only [RS.add, List.mem_append, List.mem_singleton] at h1 h2
      have he2 : dof 4 _ = dof 4 _ := he
      rw [dof_dig, dof_dig] at he2
      have hx := noclash hT (h1 _ (.inr rfl)) (h2 _ (.inr rfl)) he2
      have hl2 := txt_inj 4 _ _ (by
        intro x hx; simp only [List.mem_cons, List.not_mem_nil, or_false] at hx
        rcases hx with rfl | rfl <;> rw [bs_size] <;> omega) (by
        intro x hx; simp only [List.mem_cons, List.not_mem_nil, or_false] at hx
        rcases hx with rfl | rfl <;> rw [bs_size] <;> omega) hx
      simp only [List.cons.injEq, and_true] at hl2
      rcases Nat.lt_or_ge i (a + half (b - a)) with hi | hi
      · exact ih a (a + half (b - a)) s s' (by omega) (by omega) (by omega) (fun x hx => h1 x (.inl (rrow_mono _ _ _ _ _ _ _ (Nat.le_refl _) x hx))) (fun x hx => h2 x (.inl (rrow_mono _ _ _ _ _ _ _ (Nat.le_refl _) x hx))) (bs_inj hl2.1) i hai hi hfi hip
      · exact ih (a + half (b - a)) b _ _ (by omega) (by omega) hb (fun x hx => h1 x (.inl hx)) (fun x hx => h2 x (.inl hx)) (bs_inj hl2.2) i hi hib hfi hip
    · have hc : ¬ (b ≤ f ∨ f + P.length ≤ a) := by omega
      have hia : i = a := by omega
      subst hia
      rw [rrow_one L 0 [] (by omega) (by omega)] at h1 he
      rw [rrow_one P f S hc (by omega)] at h2 he
      simp only [RS.add, List.mem_append, List.mem_singleton] at h1 h2
      have he2 : dof 3 _ = dof 3 _ := he
      rw [dof_dig, dof_dig] at he2
      have hx := noclash hT (h1 _ (.inr rfl)) (h2 _ (.inr rfl)) he2
      have g1 : L.getD (i - 0) eL = L[i] := by rw [List.getD_eq_getElem?_getD, Nat.sub_zero, List.getElem?_eq_getElem (by omega)]; rfl
      have g2 : P.getD (i - f) eL = P[i - f] := by rw [List.getD_eq_getElem?_getD, List.getElem?_eq_getElem (by omega)]; rfl
      rw [g1, g2] at hx
      have s1 := hL.2 L[i] (List.getElem_mem _)
      have s2 := hP.2 P[i - f] (List.getElem_mem _)
      have hl2 := txt_inj 3 _ _ (by
        intro x hx; simp only [List.mem_cons, List.not_mem_nil, or_false] at hx
        rcases hx with rfl | rfl <;> omega) (by
        intro x hx; simp only [List.mem_cons, List.not_mem_nil, or_false] at hx
        rcases hx with rfl | rfl <;> omega) hx
      simp only [List.cons.injEq, and_true] at hl2
      rw [List.getElem?_eq_getElem (by omega), List.getElem?_eq_getElem (by omega)]
      congr 1
      exact (Prod.ext hl2.1 hl2.2).symm
/-- The texts of which a root is made. -/
def textsOf (L : List Lf) (f : Nat) (S : List (List UInt8)) (n : Nat) : List ByteArray := (rroot L f S RS.new n).2.texts
theorem root_bind (hL : okL L) (hP : okL P) (hS : ∀ d ∈ S, d.length = 16) (m : Nat) (hm : m ≤ 1073741824) (hT : ¬ Clash (textsOf L 0 [] L.length ++ textsOf P f S m))
    (he : (rroot L 0 [] RS.new L.length).1 = (rroot P f S RS.new m).1) : m = L.length ∧ ∀ i, i < L.length → f ≤ i → i < f + P.length → P[i - f]? = L[i]? := by
  have hl := hL.1
  have mem1 : ∀ x, x ∈ textsOf L 0 [] L.length → x ∈ textsOf L 0 [] L.length ++ textsOf P f S m := fun x h => List.mem_append.2 (.inl h)
  have mem2 : ∀ x, x ∈ textsOf P f S m → x ∈ textsOf L 0 [] L.length ++ textsOf P f S m := fun x h => List.mem_append.2 (.inr h)
  have es : ∀ k : Nat, k ≤ 1073741824 → (bs (enc (k : Int))).size ≤ 9223372036854775807 := fun k hk => by rw [bs_size]; have := (enc_le (k : Int)).2; omega
  have ei : ∀ k q : Nat, k ≤ 1073741824 → q ≤ 1073741824 → bs (enc (k : Int)) = bs (enc (q : Int)) → k = q := fun k q hk hq h => by
    have := enc_one (k : Int) (q : Int) ⟨by omega, by omega⟩ ⟨by omega, by omega⟩ (bs_inj h); omega
  by_cases h0 : L.length = 0
  · have e1 : rroot L 0 [] RS.new L.length = (top 0 none, RS.new.add 4 [bs (enc 0)]) := by unfold rroot; rw [if_pos h0]
    refine ⟨?_, fun i hi => by omega⟩
    by_cases hm0 : m = 0
    · omega
    · have e2 : rroot P f S RS.new m = (top m (some (rrow P f S RS.new 0 m).1), (rrow P f S RS.new 0 m).2.add 4 [bs (enc m), bs (rrow P f S RS.new 0 m).1]) := by unfold rroot; rw [if_neg hm0]
      rw [e1, e2] at he
      have he2 : dof 4 [bs (enc 0)] = dof 4 _ := he
      rw [dof_dig, dof_dig] at he2
      have hx := noclash hT (mem1 _ (by unfold textsOf; rw [e1]; simp [RS.add])) (mem2 _ (by unfold textsOf; rw [e2]; simp only [RS.add, List.mem_append, List.mem_singleton]; exact .inr trivial)) he2
      have l3 := rrow_len P f S hS RS.new 0 m
      have := txt_inj 4 _ _ (by
        intro x hx; simp only [List.mem_cons, List.not_mem_nil, or_false] at hx
        subst hx; exact es 0 (by omega)) (by
        intro x hx; simp only [List.mem_cons, List.not_mem_nil, or_false] at hx
        rcases hx with rfl | rfl
        · exact es m hm
        · rw [bs_size]; omega) hx
      simp at this
  · have e1 : rroot L 0 [] RS.new L.length = (top L.length (some (rrow L 0 [] RS.new 0 L.length).1), (rrow L 0 [] RS.new 0 L.length).2.add 4 [bs (enc L.length), bs (rrow L 0 [] RS.new 0 L.length).1]) := by unfold rroot; rw [if_neg h0]
    have l1 := rrow_len L 0 [] (by simp) RS.new 0 L.length
    by_cases hm0 : m = 0
    · have e2 : rroot P f S RS.new m = (top 0 none, RS.new.add 4 [bs (enc 0)]) := by unfold rroot; rw [if_pos hm0]
      rw [e1, e2] at he
      have he2 : dof 4 _ = dof 4 [bs (enc 0)] := he
      rw [dof_dig, dof_dig] at he2
      have hx := noclash hT (mem1 _ (by unfold textsOf; rw [e1]; simp only [RS.add, List.mem_append, List.mem_singleton]; exact .inr trivial)) (mem2 _ (by unfold textsOf; rw [e2]; simp [RS.add])) he2
      have := txt_inj 4 _ _ (by
        intro x hx; simp only [List.mem_cons, List.not_mem_nil, or_false] at hx
        rcases hx with rfl | rfl
        · exact es _ hl
        · rw [bs_size]; omega) (by
        intro x hx; simp only [List.mem_cons, List.not_mem_nil, or_false] at hx
        subst hx; exact es 0 (by omega)) hx
      simp at this
    · have e2 : rroot P f S RS.new m = (top m (some (rrow P f S RS.new 0 m).1), (rrow P f S RS.new 0 m).2.add 4 [bs (enc m), bs (rrow P f S RS.new 0 m).1]) := by unfold rroot; rw [if_neg hm0]
      have l3 := rrow_len P f S hS RS.new 0 m
      rw [e1, e2] at he
      have he2 : dof 4 _ = dof 4 _ := he
      rw [dof_dig, dof_dig] at he2
      have hx := noclash hT (mem1 _ (by unfold textsOf; rw [e1]; simp only [RS.add, List.mem_append, List.mem_singleton]; exact .inr trivial)) (mem2 _ (by unfold textsOf; rw [e2]; simp only [RS.add, List.mem_append, List.mem_singleton]; exact .inr trivial)) he2
      have hx2 := txt_inj 4 _ _ (by
        intro x hx; simp only [List.mem_cons, List.not_mem_nil, or_false] at hx
        rcases hx with rfl | rfl
        · exact es _ hl
        · rw [bs_size]; omega) (by
        intro x hx; simp only [List.mem_cons, List.not_mem_nil, or_false] at hx
        rcases hx with rfl | rfl
        · exact es m hm
        · rw [bs_size]; omega) hx
      simp only [List.cons.injEq, and_true] at hx2
      have hml : L.length = m := ei _ _ hl hm hx2.1
      subst hml
      refine ⟨rfl, fun i hi hfi hip => ?_⟩
      exact row_bind hT hL hP hS L.length 0 L.length RS.new RS.new (by omega) (by omega) (Nat.le_refl _)
        (fun x hx => mem1 x (by unfold textsOf; rw [e1]; simp only [RS.add, List.mem_append]; exact .inl hx))
        (fun x hx => mem2 x (by unfold textsOf; rw [e2]; simp only [RS.add, List.mem_append]; exact .inl hx))
        (bs_inj hx2.2) i (by omega) hi hfi hip
/-- Equal roots: equal leaves. -/
theorem binds (hL : okL L) (hP : okL P) (hT : ¬ Clash (textsOf L 0 [] L.length ++ textsOf P 0 [] P.length)) (he : rootD node lf top L = rootD node lf top P) : L = P := by
  rw [← rroot_eq L RS.new, ← rroot_eq P RS.new] at he
  obtain ⟨h1, h2⟩ := root_bind (f := 0) (S := []) hL hP (by simp) P.length hP.1 hT he
  apply List.ext_getElem?
  intro i
  rcases Nat.lt_or_ge i L.length with hi | hi
  · have := h2 i hi (by omega) (by omega)
    rw [Nat.sub_zero] at this; exact this.symm
  · rw [List.getElem?_eq_none (by omega), List.getElem?_eq_none (by omega)]
/-- Under the root of leaves a proof shows a part of them. -/
theorem under_cut (L : List Lf) (p : Pf) (hL : okL L) (hp : okL p.leaves) (hs : ∀ d ∈ p.sides, d.length = 16) (hu : underB node lf top (rootD node lf top L) p = true)
    (hT : ¬ Clash (textsOf L 0 [] L.length ++ textsOf p.leaves p.first.toNat p.sides p.size.toNat)) : p.size = (L.length : Int) ∧ p.first = (p.first.toNat : Int) ∧ p.first.toNat + p.leaves.length ≤ L.length ∧ p.leaves = cut L p.first.toNat (p.first.toNat + p.leaves.length) := by
  unfold underB at hu
  rw [Bool.and_eq_true] at hu
  obtain ⟨hf, hr⟩ := hu
  rw [Bool.and_eq_true, decide_eq_true_eq, decide_eq_true_eq] at hr
  unfold formP at hf
  simp only [Bool.and_eq_true, decide_eq_true_eq] at hf
  obtain ⟨⟨⟨f1, f2, f3, f4⟩, _⟩, _⟩ := hf
  have hrr := rroot_run p.leaves p.first.toNat p.sides p.size.toNat
  have he : (rroot L 0 [] RS.new L.length).1 = (rroot p.leaves p.first.toNat p.sides RS.new p.size.toNat).1 := by
    rw [rroot_eq L RS.new, hrr.1, ← hr.2]; rfl
  obtain ⟨h1, h2⟩ := root_bind hL hp hs p.size.toNat (by omega) hT he
  refine ⟨by omega, by omega, by omega, ?_⟩
  apply List.ext_getElem?
  intro i
  rcases Nat.lt_or_ge i p.leaves.length with hi | hi
  · rw [cut_get _ _ _ _ (by omega)]
    have := h2 (p.first.toNat + i) (by omega) (by omega) (by omega)
    rw [Nat.add_sub_cancel_left] at this; exact this
  · rw [List.getElem?_eq_none (by omega), List.getElem?_eq_none (by rw [cut_len _ _ _ (by omega)]; omega)]
end
/-- What Check says is true of the leaves. -/
theorem check_true (L : List Lf) (k : ByteArray) (p : Pf) (hL : okL L) (ho : ord L) (hp : okL p.leaves) (hs : ∀ d ∈ p.sides, d.length = 16)
    (hT : ¬ Clash (textsOf L 0 [] L.length ++ textsOf p.leaves p.first.toNat p.sides p.size.toNat)) (hc : (checkR node lf top (rootD node lf top L) k p).2.2 = 0) :
    checkR node lf top (rootD node lf top L) k p = if hitB L k = true then ((L.getD (cb L k) (ByteArray.empty, ByteArray.empty)).2, true, 0) else (ByteArray.empty, false, 0) := by
  unfold checkR at hc ⊢
  by_cases hu : underB node lf top (rootD node lf top L) p = true
  · rw [if_pos hu] at hc ⊢
    obtain ⟨e1, e2, e3, e4⟩ := under_cut L p hL hp hs hu hT
    obtain ⟨f, hf⟩ : ∃ f, f = p.first.toNat := ⟨_, rfl⟩
    rw [← hf] at e2 e3 e4
    have hcl := cut_len L f (f + p.leaves.length) e3
    have hcb := cb_le L k
    have hcp := cb_le p.leaves k
    have get : ∀ i, i < p.leaves.length → p.leaves[i]? = L[f + i]? := fun i hi => by rw [e4, cut_get _ _ _ _ (by omega)]
    have ordP : ord p.leaves := by rw [e4]; exact cut_ord ho _ _
    by_cases hh : hitB p.leaves k = true
    · rw [if_pos hh] at hc ⊢
      unfold hitB at hh
      simp only [Bool.and_eq_true, decide_eq_true_eq] at hh
      have hlt := hh.1
      have hg := get _ hlt
      have hlt2 : f + cb p.leaves k < L.length := by omega
      have hk : L[f + cb p.leaves k].1 = k := by
        have h2 := hh.2
        rw [List.getD_eq_getElem?_getD, hg, List.getElem?_eq_getElem hlt2] at h2
        exact h2
      have hcc : cb L k = f + cb p.leaves k := by
        have h1 := cb_iff L k ho (f + cb p.leaves k) hlt2
        rw [hk, sl_irrefl] at h1
        have h2 : ¬ f + cb p.leaves k < cb L k := fun h => by have := h1.2 h; cases this
        apply Nat.le_antisymm _ (by omega) |>.symm
        apply Nat.le_of_not_lt
        intro h3
        have hq : cb L k < L.length := by omega
        have h4 := List.pairwise_iff_getElem.1 ho (cb L k) (f + cb p.leaves k) hq hlt2 h3
        rw [hk] at h4
        have h5 := (cb_iff L k ho (cb L k) hq).1 h4
        omega
      rw [if_pos (by unfold hitB; rw [hcc, Bool.and_eq_true, decide_eq_true_eq, decide_eq_true_eq]; exact ⟨hlt2, by rw [List.getD_eq_getElem?_getD, List.getElem?_eq_getElem hlt2]; exact hk⟩)]
      rw [hcc, List.getD_eq_getElem?_getD, List.getD_eq_getElem?_getD, hg]
    · rw [if_neg hh] at hc ⊢
      by_cases hb : bounded p (cb p.leaves k) (cb p.leaves k) = true
      · rw [if_pos hb] at hc ⊢
        rw [if_neg]
        intro hhit
        unfold hitB at hhit
        simp only [Bool.and_eq_true, decide_eq_true_eq] at hhit
        obtain ⟨hq, hk⟩ := hhit
        rw [List.getD_eq_getElem?_getD, List.getElem?_eq_getElem hq] at hk
        have hk' : L[cb L k].1 = k := hk
        unfold bounded at hb
        simp only [Bool.and_eq_true, Bool.or_eq_true, decide_eq_true_eq] at hb
        have c1 : f ≤ cb L k := by
          rcases hb.1 with h | h
          · have hg := get 0 (by omega)
            have := (cb_iff p.leaves k ordP 0 (by omega)).2 h
            rw [Nat.add_zero, List.getElem?_eq_getElem (by omega), List.getElem?_eq_getElem (by omega)] at hg
            rw [Option.some.inj hg] at this
            have := (cb_iff L k ho f (by omega)).1 this
            omega
          · omega
        have c2 : cb L k < f + p.leaves.length := by
          rcases hb.2 with h | h
          · apply Nat.lt_of_le_of_lt _ (show f + cb p.leaves k < f + p.leaves.length by omega)
            apply Nat.le_of_not_lt
            intro h3
            have hg := get (cb p.leaves k) h
            rw [List.getElem?_eq_getElem h, List.getElem?_eq_getElem (by omega)] at hg
            have h4 := (cb_iff L k ho (f + cb p.leaves k) (by omega)).2 h3
            rw [← Option.some.inj hg] at h4
            have := (cb_iff p.leaves k ordP (cb p.leaves k) h).1 h4
            omega
          · omega
        apply hh
        have hc3 : cb p.leaves k = cb L k - f := by
          have := cut_cb ho k f (f + p.leaves.length) c1 (by omega) e3
          rw [← e4] at this; exact this
        unfold hitB
        rw [Bool.and_eq_true, decide_eq_true_eq, decide_eq_true_eq, hc3]
        refine ⟨by omega, ?_⟩
        rw [List.getD_eq_getElem?_getD, get _ (by omega), show f + (cb L k - f) = cb L k by omega, List.getElem?_eq_getElem hq]
        exact hk'
      · rw [if_neg hb] at hc; cases hc
  · rw [if_neg hu] at hc; cases hc
/-- What CheckRange gives is all leaves of the range. -/
theorem range_true (L : List Lf) (k m : ByteArray) (p : Pf) (hL : okL L) (ho : ord L) (hp : okL p.leaves) (hs : ∀ d ∈ p.sides, d.length = 16)
    (hT : ¬ Clash (textsOf L 0 [] L.length ++ textsOf p.leaves p.first.toNat p.sides p.size.toNat)) (hc : (checkRangeR node lf top (rootD node lf top L) k m p).2 = 0) :
    checkRangeR node lf top (rootD node lf top L) k m p = (insideR L k m, 0) := by
  unfold checkRangeR at hc ⊢
  by_cases hkm : sl m k = true
  · rw [if_pos hkm] at hc; cases hc
  rw [if_neg hkm] at hc ⊢
  have hkm' : sl m k = false := by simpa using hkm
  by_cases hu : underB node lf top (rootD node lf top L) p = true
  · rw [if_pos hu] at hc ⊢
    obtain ⟨e1, e2, e3, e4⟩ := under_cut L p hL hp hs hu hT
    obtain ⟨f, hf⟩ : ∃ f, f = p.first.toNat := ⟨_, rfl⟩
    rw [← hf] at e2 e3 e4
    have hcl := cut_len L f (f + p.leaves.length) e3
    have hcb := cb_le L k
    have hcm := cb_le L m
    have hmo := cb_mono (L := L) hkm'
    have get : ∀ i, i < p.leaves.length → p.leaves[i]? = L[f + i]? := fun i hi => by rw [e4, cut_get _ _ _ _ (by omega)]
    have ordP : ord p.leaves := by rw [e4]; exact cut_ord ho _ _
    by_cases hb : bounded p (cb p.leaves k) (cb p.leaves m) = true
    · rw [if_pos hb] at hc ⊢
      unfold bounded at hb
      simp only [Bool.and_eq_true, Bool.or_eq_true, decide_eq_true_eq] at hb
      have c1 : f ≤ cb L k := by
        rcases hb.1 with h | h
        · have hcp := cb_le p.leaves k
          have hg := get 0 (by omega)
          have := (cb_iff p.leaves k ordP 0 (by omega)).2 h
          rw [Nat.add_zero, List.getElem?_eq_getElem (by omega), List.getElem?_eq_getElem (by omega)] at hg
          rw [Option.some.inj hg] at this
          have := (cb_iff L k ho f (by omega)).1 this
          omega
        · omega
      have c2 : cb L m ≤ f + p.leaves.length := by
        rcases hb.2 with h | h
        · apply Nat.le_trans _ (show f + cb p.leaves m ≤ f + p.leaves.length by omega)
          apply Nat.le_of_not_lt
          intro h3
          have hg := get (cb p.leaves m) h
          rw [List.getElem?_eq_getElem h, List.getElem?_eq_getElem (by omega)] at hg
          have h4 := (cb_iff L m ho (f + cb p.leaves m) (by omega)).2 h3
          rw [← Option.some.inj hg] at h4
          have := (cb_iff p.leaves m ordP (cb p.leaves m) h).1 h4
          omega
        · omega
      have k1 := cut_cb ho k f (f + p.leaves.length) c1 (by omega) e3
      have k2 := cut_cb ho m f (f + p.leaves.length) (by omega) c2 e3
      rw [← e4] at k1 k2
      congr 1
      rw [inside_cut L k m ho hkm', k1, k2]
      apply List.ext_getElem?
      intro i
      by_cases hi : i < cb L m - cb L k
      · rw [cut_get _ _ _ _ (by omega), cut_get _ _ _ _ (by omega), get _ (by omega)]
        congr 1; omega
      · rw [List.getElem?_eq_none (by rw [cut_len _ _ _ (by omega)]; omega), List.getElem?_eq_none (by rw [cut_len _ _ _ (by omega)]; omega)]
    · rw [if_neg hb] at hc; cases hc
  · rw [if_neg hu] at hc; cases hc
end Go.Proofs.YtofccgkgjcnfbaaDoor

