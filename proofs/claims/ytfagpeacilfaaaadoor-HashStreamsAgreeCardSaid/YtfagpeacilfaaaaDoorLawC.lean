/-
  The law HashOfSeparates returns true, whatever the tags and the parts.
  Condition: the table of the round constants is as the text lays it; strings and lists are no longer than a machine's.
-/
import Derived.Test.YtfagpeacilfaaaaDoorLawA
import Derived.Test.YtfagpeacilfaaaaDoorInj
import Derived.Test.YtfagpeacilfaaaaDoorFew
import Derived.Outline
namespace Go.Proofs.YtfagpeacilfaaaaDoor
open Go.RowKit Wr Sh
set_option linter.unusedVariables false

theorem few_len {l : List ByteArray} (h : few l = true) : l.length ≤ 12 ∧ ∀ s ∈ l, s.size ≤ 400 := by
  unfold few at h
  rw [Bool.and_eq_true, decide_eq_true_iff, List.all_eq_true] at h
  exact ⟨h.1, fun s hs => by simpa using h.2 s hs⟩
theorem flat_le : ∀ l : List ByteArray, (∀ s ∈ l, s.size ≤ 400) → ((l.map fun s => encStr s.data.toList).flatten).length ≤ 410 * l.length := by
  intro l
  induction l with
  | nil => intro _; simp
  | cons a l ih =>
    intro h
    have h1 := ih fun s hs => h s (by simp [hs])
    have h2 := h a (by simp)
    have h3 : (encStr a.data.toList).length ≤ 410 := by
      unfold encStr
      rw [List.length_append, size_l]
      have := (enc_le (a.size : Int)).2
      omega
    rw [List.map_cons, List.flatten_cons, List.length_append, List.length_cons]
    omega
theorem inp_few (t : UInt8) {l : List ByteArray} (h : few l = true) : (inp t l).length ≤ 5000 := by
  obtain ⟨h1, h2⟩ := few_len h
  have := flat_le l h2
  unfold inp
  rw [List.length_cons]
  omega
theorem inp_ne (t : UInt8) (l : List ByteArray) : inp t l ≠ [] := by unfold inp; simp

theorem hsum_v (m : List UInt8) (v : Value) (base : Nat) (w0 w : World) (ho : w0.ownsRow base 5 1 v m.length (B8 m)) (hb : Below w0.heap.size w0 w) (hsz : m.length ≤ 549755813888) (ht : Tab 1 w) (R : List UInt8) (hR : Hid (R = sha m)) :
    Calls Tryd.prog 11 #[v] w fun e w' => e = .returned (.agg (B8 R).toArray) ∧ Below w.heap.size w w' := by
  obtain ⟨A, c, rfl, hc, _, hr⟩ := own_form (own_below ho hb)
  exact hsum_go m A c w hr hc hsz ht R hR
theorem conv_v (m : List UInt8) (v : Value) (base : Nat) (w0 w : World) (ho : w0.ownsRow base 5 1 v m.length (B8 m)) (hb : Below w0.heap.size w0 w) (hne : m ≠ []) : (convert 22 9 v).run Tryd.prog w = .ok (.string ⟨m.toArray⟩) w := by
  rcases own_bytes (own_below ho hb) with h | h
  · exact h
  · exact absurd h hne

theorem eq5' (D : Nat) (n m : Int) (w : World) : (Op.equalIn (D + 1) 5 (.int .u8 n) (.int .u8 m)).run Tryd.prog w = .ok (n == m) w := by
  simp [Op.equalIn, run_underlying Tryd.underlying5]
theorem items_all (D : Nat) (d e : List UInt8) (w : World) (hl : d.length = e.length) : ∀ is : List Nat, (∀ i ∈ is, i < d.length) → (Op.eqItems (D + 1) 5 (Tryd.prog.cellsOf 5) (B8 d).toArray (B8 e).toArray is).run Tryd.prog w = .ok (is.all fun i => d[i]? == e[i]?) w := by
  intro is
  induction is with
  | nil => intro _; simp [Op.eqItems]
  | cons i is ih =>
    intro h
    have hi := h i (by simp)
    have hi' : i < e.length := by omega
    simp only [Op.eqItems, Sem.run_bind, part5 d i hi w, part5 e i hi' w, Result.andThen_ok]
    rw [eq5']
    have hc : ((d[i].toNat : Int) == (e[i].toNat : Int)) = (d[i]? == e[i]?) := by
      rw [List.getElem?_eq_getElem hi, List.getElem?_eq_getElem hi', Bool.eq_iff_iff]
      simp only [beq_iff_eq, Option.some.injEq]
      constructor
      · intro h1; exact UInt8.toNat_inj.1 (by omega)
      · intro h1; rw [h1]
    rw [hc, List.all_cons]
    cases hq : (d[i]? == e[i]?) with
    | false => simp
    | true => simpa using ih (fun j hj => h j (by simp [hj]))
theorem eql44 (d e : List UInt8) (hd : d.length = 16) (he : e.length = 16) (w : World) : (binOp .eql 44 (.agg (B8 d).toArray) (.agg (B8 e).toArray)).run Tryd.prog w = .ok (.bool (d == e)) w := by
  obtain ⟨i0, hi0, _⟩ := info_parts Tryd.info5
  rw [run_eql_struct, show (10000 : Nat) = 9999 + 1 from rfl, run_equalIn_array w 9999 _ _ Tryd.underlying44 hi0, show (9999 : Nat) = 9998 + 1 from rfl, items_all 9998 d e w (by omega) _ (by intro i hi; rw [hd]; exact List.mem_range.1 hi)]
  have : ((List.range 16).all fun i => d[i]? == e[i]?) = (d == e) := by
    rw [Bool.eq_iff_iff, List.all_eq_true, beq_iff_eq]
    constructor
    · intro h
      apply List.ext_getElem?
      intro i
      rcases Nat.lt_or_ge i 16 with hi | hi
      · exact beq_iff_eq.1 (h i (List.mem_range.2 hi))
      · rw [List.getElem?_eq_none (by omega), List.getElem?_eq_none (by omega)]
    · rintro rfl i _; simp
  rw [← this]; rfl

/-- The two tags. -/
def T2 (t u : UInt8) : List Value := [.int .u8 (t.toNat : Int), .int .u8 (u.toNat : Int)]

set_option maxRecDepth 100000 in
set_option maxHeartbeats 4000000 in
theorem separates_few (t u : UInt8) (A B : Option Addr) (a b : List ByteArray) (ca cb : Nat) (w : World) (hra : Rd w w.heap.size A (St a)) (hrb : Rd w w.heap.size B (St b)) (hca : a.length ≤ ca) (hcb : b.length ≤ cb)
    (hna : a.length ≤ 281474976710656) (hnb : b.length ≤ 281474976710656) (hsa : ∀ s ∈ a, s.size ≤ 281474976710656) (hsb : ∀ s ∈ b, s.size ≤ 281474976710656) (ht : Tab 1 w)
    (hf : few a = false ∨ few b = false) :
    Calls Tryd.prog 8 #[.agg (T2 t u).toArray, .slice A a.length ca, .slice B b.length cb] w fun e w' => e = .returned (.bool true) ∧ Below w.heap.size w w' := by
  have HT := Lib.hid ht
  have HA := Lib.hid hra
  have HB := Lib.hid hrb
  have HSA := Lib.hid hsa
  have HSB := Lib.hid hsb
  clear ht hra hrb hsa hsb
  have HB0 := Lib.hid ((Below.refl w.heap.size w).alloc (Nat.le_refl _) (.cells (T2 t u).toArray 48))
  obtain ⟨F, hF⟩ : ∃ F, F = few a := ⟨_, rfl⟩
  obtain ⟨G, hG⟩ : ∃ G, G = few b := ⟨_, rfl⟩
  rw [← hF, ← hG] at hf
  have HF := Lib.hid hF
  have HG := Lib.hid hG
  clear hF hG
  cases F with
  | false =>
    clear hf
    go_enter Tryd.func8, Tryd.ntmps8
    go_wp2_with (first
      | (go_at_call 10; refine (sanity_any _ (HT.out.below HB0.out HT.out.1)).mono ?_; rintro e w1 ⟨rfl, hb1⟩; have HB1 := Lib.hid (HB0.out.trans (hb1.mono HB0.out.size)); clear hb1)
      | (go_at_call 13; (with_reducible refine (few_any A a ca _ ((HA.out.below HB1.out).more HB1.out.size) hna HSA.out false HF.out).mono ?_); rintro e w2 ⟨rfl, rfl⟩))
    go_ret
    exact ⟨rfl, HB1.out⟩
  | true =>
    cases G with
    | true => simp at hf
    | false =>
      clear hf
      go_enter Tryd.func8, Tryd.ntmps8
      go_wp2_with (first
        | (go_at_call 10; refine (sanity_any _ (HT.out.below HB0.out HT.out.1)).mono ?_; rintro e w1 ⟨rfl, hb1⟩; have HB1 := Lib.hid (HB0.out.trans (hb1.mono HB0.out.size)); clear hb1)
        | (go_at_call 13; (with_reducible refine (few_any A a ca _ ((HA.out.below HB1.out).more HB1.out.size) hna HSA.out true HF.out).mono ?_); rintro e w2 ⟨rfl, rfl⟩)
        | (go_at_call 13; (with_reducible refine (few_any B b cb _ ((HB.out.below HB1.out).more HB1.out.size) hnb HSB.out false HG.out).mono ?_); rintro e w2 ⟨rfl, rfl⟩))
      go_ret
      exact ⟨rfl, HB1.out⟩

theorem size44' (L : List UInt8) (h : L.length = 16) : (Tryd.prog.info? 44).map (·.size) = some (B8 L).toArray.size := by rw [List.size_toArray, B8_len, h]; kernel_rfl
theorem size44l (L : List UInt8) (h : L.length = 16) : (Tryd.prog.info? 44).map (·.size) = some (B8 L).length := by rw [B8_len, h]; kernel_rfl
theorem zero44 (L : List UInt8) (h : L.length = 16) : (B8 (List.replicate 16 0)).toArray.size = (B8 L).toArray.size := by rw [List.size_toArray, List.size_toArray, B8_len, B8_len, h]; rfl
theorem zero24 (L : List UInt8) (h : L.length = 32) : (B8 (List.replicate 32 0)).toArray.size = (B8 L).toArray.size := by rw [List.size_toArray, List.size_toArray, B8_len, B8_len, h]; rfl
set_option maxRecDepth 100000 in
set_option maxHeartbeats 8000000 in
theorem separates_go (t u : UInt8) (A B : Option Addr) (a b : List ByteArray) (ca cb : Nat) (w : World) (hra : Rd w w.heap.size A (St a)) (hrb : Rd w w.heap.size B (St b)) (hca : a.length ≤ ca) (hcb : b.length ≤ cb)
    (ht : Tab 1 w) (hfa : few a = true) (hfb : few b = true) (X Y R Q D E : List UInt8) (HX : Hid (X = inp t a)) (HY : Hid (Y = inp u b)) (HR : Hid (R = sha X)) (HQ : Hid (Q = sha Y)) (HD : Hid (D = R.take 16)) (HE : Hid (E = Q.take 16)) :
    Calls Tryd.prog 8 #[.agg (T2 t u).toArray, .slice A a.length ca, .slice B b.length cb] w fun e w' => e = .returned (.bool true) ∧ Below w.heap.size w w' := by
  obtain ⟨hna, hsa⟩ := few_len hfa
  obtain ⟨hnb, hsb⟩ := few_len hfb
  have HSA := Lib.hid hsa
  have HSB := Lib.hid hsb
  have HFA := Lib.hid hfa.symm
  have HFB := Lib.hid hfb.symm
  obtain ⟨NA, hNA⟩ : ∃ n, n = a.length := ⟨_, rfl⟩
  obtain ⟨NB, hNB⟩ : ∃ n, n = b.length := ⟨_, rfl⟩
  have HFEWA : ∀ W, Below w.heap.size w W → Calls Tryd.prog 13 #[.slice A NA ca] W fun e w' => e = .returned (.bool true) ∧ W = w' := by
    intro W hW
    rw [hNA]
    exact few_any A a ca W ((hra.below hW).more hW.size) (by omega) (fun s hs => by have := hsa s hs; omega) true hfa.symm
  have HFEWB : ∀ W, Below w.heap.size w W → Calls Tryd.prog 13 #[.slice B NB cb] W fun e w' => e = .returned (.bool true) ∧ W = w' := by
    intro W hW
    rw [hNB]
    exact few_any B b cb W ((hrb.below hW).more hW.size) (by omega) (fun s hs => by have := hsb s hs; omega) true hfb.symm
  have HFEWA' := Lib.hid HFEWA
  have HFEWB' := Lib.hid HFEWB
  rw [← hNA] at hca hna ⊢
  rw [← hNB] at hcb hnb ⊢
  have HNA := Lib.hid hNA
  have HNB := Lib.hid hNB
  have HT := Lib.hid ht
  have HA := Lib.hid hra
  have HB := Lib.hid hrb
  have HB0 := Lib.hid ((Below.refl w.heap.size w).alloc (Nat.le_refl _) (.cells (T2 t u).toArray 48))
  have HK0 := Lib.hid (Blk.new w 48 (T2 t u))
  obtain ⟨S, hS⟩ : ∃ S : Bool, S = (decide (t = u) && decide (NA = NB)) := ⟨_, rfl⟩
  have HS := Lib.hid hS
  have e1 : ((t.toNat : Int) == (u.toNat : Int)) = decide (t = u) := by
    rw [Bool.eq_iff_iff]; simp only [beq_iff_eq, decide_eq_true_eq]
    constructor
    · intro h1; exact UInt8.toNat_inj.1 (by omega)
    · intro h1; rw [h1]
  have e2 : ((NA : Int) == (NB : Int)) = decide (NA = NB) := by
    rw [Bool.eq_iff_iff]; simp only [beq_iff_eq, decide_eq_true_eq]; omega
  have E1 := Lib.hid e1
  have E2 := Lib.hid e2
  clear ht hra hrb hsa hsb hfa hfb hNA hNB hS e1 e2 HFEWA HFEWB
  go_enter Tryd.func8, Tryd.ntmps8
  go_upto_region 4 with (first
    | (go_at_call 10; refine (sanity_any _ (HT.out.below HB0.out HT.out.1)).mono ?_; rintro e w1 ⟨rfl, hb1⟩; have HB1 := Lib.hid (HB0.out.trans (hb1.mono HB0.out.size)); have k1 := HK0.out.below hb1 HK0.out.lt; clear hb1)
    | (go_at_call 13; (with_reducible refine (HFEWA'.out _ HB1.out).mono ?_); rintro e w2 ⟨rfl, rfl⟩)
    | (go_at_call 13; (with_reducible refine (HFEWB'.out _ HB1.out).mono ?_); rintro e w2 ⟨rfl, rfl⟩))
  have q0 : w1.cell? ⟨w.heap.size, 0, none⟩ = some (.int .u8 (t.toNat : Int)) := k1.cell 0
  have q1 : w1.cell? ⟨w.heap.size, 1, none⟩ = some (.int .u8 (u.toNat : Int)) := k1.cell 1
  go_cut [8] (fun s8 wx => s8 = .bool S ∧ w1 = wx)
  case first =>
    by_cases htu : t = u
    · by_cases hab : NA = NB
      · have f1 : ((t.toNat : Int) == (u.toNat : Int)) = true := by rw [E1.out]; simpa using htu
        have f2 : ((NA : Int) == (NB : Int)) = true := by rw [E2.out]; simpa using hab
        have f3 : (decide (t = u) && decide (NA = NB)) = true := by simp [htu, hab]
        have F3 := Lib.hid (HS.out.trans f3).symm
        clear htu hab f3
        go_wp2
        go_meet
        exact ⟨congrArg Value.bool F3.out, rfl⟩
      · have f1 : ((t.toNat : Int) == (u.toNat : Int)) = true := by rw [E1.out]; simpa using htu
        have f2 : ((NA : Int) == (NB : Int)) = false := by rw [E2.out]; simpa using hab
        have f3 : (decide (t = u) && decide (NA = NB)) = false := by simp [hab]
        have F3 := Lib.hid (HS.out.trans f3).symm
        clear htu hab f3
        go_wp2
        go_meet
        exact ⟨congrArg Value.bool F3.out, rfl⟩
    · have f1 : ((t.toNat : Int) == (u.toNat : Int)) = false := by rw [E1.out]; simpa using htu
      have f3 : (decide (t = u) && decide (NA = NB)) = false := by simp [htu]
      have F3 := Lib.hid (HS.out.trans f3).symm
      clear htu f3
      go_wp2
      go_meet
      exact ⟨congrArg Value.bool F3.out, rfl⟩
  case rest =>
    obtain ⟨rfl, rfl⟩ := hcut
    clear q0 q1
    have K1 := Lib.hid k1
    clear k1
    go_wp2_with fail
    go_loopw [8, 9] (fun s8 s9 wr => ∃ (j : Nat) (s : Bool), j ≤ NA ∧ s8 = .bool s ∧ s9 = .int .i64 j ∧ Hid ((s = true → t = u ∧ NA = NB ∧ a.take j = b.take j) ∧ (s = false → ¬ (t = u ∧ a = b))) ∧ Hid (Blk wr w.heap.size 48 (T2 t u)) ∧ Hid (Below w.heap.size w wr)) (fun _ s9 _ => NA - (intOf s9).toNat)
    case atStart =>
      refine ⟨0, S, Nat.zero_le _, rfl, rfl, Lib.hid ⟨fun h => ?_, fun h => ?_⟩, K1, HB1⟩
      · rw [HS.out, Bool.and_eq_true, decide_eq_true_iff, decide_eq_true_iff] at h
        exact ⟨h.1, h.2, rfl⟩
      · rintro ⟨h1, h2⟩
        rw [HS.out, Bool.and_eq_false_iff, decide_eq_false_iff_not, decide_eq_false_iff_not] at h
        rcases h with h | h
        · exact h h1
        · exact h (by rw [HNA.out, HNB.out, h2])
    case round =>
      clear HB1 K1
      obtain ⟨j, s, hj, rfl, rfl, HJ, K1, HB1⟩ := hrel
      cases s with
      | true =>
        by_cases hlt : j < NA
        · have hja : j < a.length := by rw [← HNA.out]; exact hlt
          obtain ⟨h1, h2, h3⟩ := HJ.out.1 rfl
          have hjb : j < b.length := by rw [← HNB.out, ← h2]; exact hlt
          have hjB : j < NB := by rw [← h2]; exact hlt
          obtain ⟨ga, oa, rfl, hga, hcella⟩ := HA.out (by intro e; have := congrArg List.length e; simp only [St, List.length_map, List.length_nil] at this; omega)
          obtain ⟨gb, ob, rfl, hgb, hcellb⟩ := HB.out (by intro e; have := congrArg List.length e; simp only [St, List.length_map, List.length_nil] at this; omega)
          obtain ⟨x, hx⟩ : ∃ x, x = a[j] := ⟨_, rfl⟩
          obtain ⟨y, hy⟩ : ∃ y, y = b[j] := ⟨_, rfl⟩
          have cx : wr.cell? ⟨ga, oa + j, none⟩ = some (.string x) := by
            rw [HB1.out.cell (show (⟨ga, oa + j, none⟩ : Addr).block < _ from hga), hx]; exact hcella j _ (St_get a j hja)
          have cy : wr.cell? ⟨gb, ob + j, none⟩ = some (.string y) := by
            rw [HB1.out.cell (show (⟨gb, ob + j, none⟩ : Addr).block < _ from hgb), hy]; exact hcellb j _ (St_get b j hjb)
          have HXX := Lib.hid hx
          have HYY := Lib.hid hy
          have H1 := Lib.hid h1
          have H2 := Lib.hid h2
          have H3 := Lib.hid h3
          obtain ⟨Eq, hEq⟩ : ∃ E, E = eqB x y := ⟨_, rfl⟩
          have hl := eqB_list x y
          rw [← hEq] at hl
          have HEq := Lib.hid hEq
          clear hcella hcellb hx hy h1 h2 h3 hEq
          have hjA' : (j : Int) < (NA : Int) := by omega
          have hjB' : (j : Int) < (NB : Int) := by omega
          go_wp2
          go_quiet (fail)
          go_wp2
          go_roundw
          case rel =>
            refine ⟨j + 1, Eq, hlt, rfl, by go_num, Lib.hid ⟨fun h => ⟨H1.out, H2.out, ?_⟩, fun h => ?_⟩, Lib.hid (K1.out.drewN _), Lib.hid (below_drewN HB1.out _)⟩
            · rw [HEq.out, eqB, decide_eq_true_iff] at h
              have hxy : x = y := by
                cases x with | mk dx => cases y with | mk dy =>
                exact congrArg ByteArray.mk (Array.toList_inj.1 h)
              rw [List.take_succ_eq_append_getElem hja, List.take_succ_eq_append_getElem hjb, H3.out, ← HXX.out, ← HYY.out, hxy]
            · rintro ⟨_, h5⟩
              rw [HEq.out, eqB, decide_eq_false_iff_not] at h
              apply h
              rw [HXX.out, HYY.out]
              congr 2
              subst h5
              rfl
          case measure => simp only [intOf]; omega
        · obtain rfl : j = NA := by omega
          have hsame : t = u ∧ a = b := by
            obtain ⟨h1, h2, h3⟩ := HJ.out.1 rfl
            rw [List.take_of_length_le (by rw [← HNA.out]; exact Nat.le_refl _), List.take_of_length_le (by rw [← HNB.out, ← h2]; exact Nat.le_refl _)] at h3
            exact ⟨h1, h3⟩
          obtain ⟨rfl, rfl⟩ := hsame
          clear HJ HFEWA' HFEWB' E1 E2 HS
          have q0 : wr.cell? ⟨w.heap.size, 0, none⟩ = some (.int .u8 (t.toNat : Int)) := K1.out.cell 0
          have w8 : IntKind.i64.wrap (t.toNat : Int) = (t.toNat : Int) := IntWalk.i64_in _ (by have := t.toNat_lt; omega)
          have HXN := Lib.hid (show X ≠ [] by rw [HX.out]; exact inp_ne t a)
          have HXL := Lib.hid (show X.length ≤ 5000 by rw [HX.out]; exact inp_few t HFA.out.symm)
          have HYX := Lib.hid (HY.out.trans HX.out.symm)
          have HIN : Hid (∀ W A c, Below w.heap.size w W → Rd W W.heap.size A (St a) → Calls Tryd.prog 23 #[.int .i64 (t.toNat : Int), .slice A j c] W fun e w' => ∃ v', e = .returned v' ∧ w'.ownsRow W.heap.size 5 1 v' X.length (B8 X) ∧ Below W.heap.size W w') := Lib.hid (by
            intro W A c hW hA
            rw [HX.out, HNA.out]
            exact input_any t A a c W hA (by have := inp_few t HFA.out.symm; omega))
          have hxx : (X == X) = true := by simp
          have hjN : j = NB := by rw [HNA.out, HNB.out]
          subst hjN
          go_wp2_with (first
            | (go_at_call 23; (with_reducible refine (HIN.out _ A ca HB1.out ((HA.out.below HB1.out).more HB1.out.size)).mono ?_); rintro e w2 ⟨v2, rfl, ho2, hb2⟩; have HO2 := Lib.hid ho2; have HC2 := Lib.hid hb2; have HB2 := Lib.hid (HB1.out.trans (hb2.mono HB1.out.size)); have q1 : w2.cell? ⟨w.heap.size, 1, none⟩ = some (.int .u8 (t.toNat : Int)) := (K1.out.below hb2 K1.out.lt).cell 1; clear ho2 hb2)
            | (go_at_call 23; (with_reducible refine (HIN.out _ B cb HB2.out ((HB.out.below HB2.out).more HB2.out.size)).mono ?_); rintro e w3 ⟨v3, rfl, ho3, hb3⟩; have HB3 := Lib.hid (HB2.out.trans (hb3.mono HB2.out.size)); have hc2 := conv_v X v2 _ w2 w3 HO2.out hb3 HXN.out; have hc3 := conv_v X v3 _ w3 w3 ho3 (Below.refl _ _) HXN.out; clear ho3 hb3))
          go_ret
          exact ⟨rfl, HB3.out⟩
      | false =>
        have hns : ¬ (t = u ∧ a = b) := HJ.out.2 rfl
        have HXN := Lib.hid (show X ≠ [] by rw [HX.out]; exact inp_ne t a)
        have HYN := Lib.hid (show Y ≠ [] by rw [HY.out]; exact inp_ne u b)
        have HXL := Lib.hid (show X.length ≤ 5000 by rw [HX.out]; exact inp_few t HFA.out.symm)
        have HYL := Lib.hid (show Y.length ≤ 5000 by rw [HY.out]; exact inp_few u HFB.out.symm)
        have hne : X ≠ Y := by
          rw [HX.out, HY.out]
          intro h
          exact hns (inp_inj t u a b (fun s hs => by have := HSA.out s hs; omega) (fun s hs => by have := HSB.out s hs; omega) h)
        have HNE := Lib.hid hne
        clear HJ HFEWA' HFEWB' E1 E2 HS hns hne
        have q0 : wr.cell? ⟨w.heap.size, 0, none⟩ = some (.int .u8 (t.toNat : Int)) := K1.out.cell 0
        have w8 : IntKind.i64.wrap (t.toNat : Int) = (t.toNat : Int) := IntWalk.i64_in _ (by have := t.toNat_lt; omega)
        have w9 : IntKind.i64.wrap (u.toNat : Int) = (u.toNat : Int) := IntWalk.i64_in _ (by have := u.toNat_lt; omega)
        have HIN : Hid (∀ W, Below w.heap.size w W → Calls Tryd.prog 23 #[.int .i64 (t.toNat : Int), .slice A NA ca] W fun e w' => ∃ v', e = .returned v' ∧ w'.ownsRow W.heap.size 5 1 v' X.length (B8 X) ∧ Below W.heap.size W w') := Lib.hid (by
          intro W hW
          rw [HX.out, HNA.out]
          exact input_any t A a ca W ((HA.out.below hW).more hW.size) (by have := inp_few t HFA.out.symm; omega))
        have HIM : Hid (∀ W, Below w.heap.size w W → Calls Tryd.prog 23 #[.int .i64 (u.toNat : Int), .slice B NB cb] W fun e w' => ∃ v', e = .returned v' ∧ w'.ownsRow W.heap.size 5 1 v' Y.length (B8 Y) ∧ Below W.heap.size W w') := Lib.hid (by
          intro W hW
          rw [HY.out, HNB.out]
          exact input_any u B b cb W ((HB.out.below hW).more hW.size) (by have := inp_few u HFB.out.symm; omega))
        have HOF : Hid (∀ W, Below w.heap.size w W → Calls Tryd.prog 21 #[.int .i64 (t.toNat : Int), .slice A NA ca] W fun e w' => e = .returned (.agg (B8 D).toArray) ∧ Below W.heap.size W w') := Lib.hid (by
          intro W hW
          rw [HNA.out, HD.out]
          exact of_go (t.toNat : Int) A a ca W ((HA.out.below hW).more hW.size) (by rw [← HNA.out]; exact hca) t (by rw [IntKind.wrap_u8']; have := t.toNat_lt; omega) (by have := inp_few t HFA.out.symm; omega) (HT.out.below hW HT.out.1) R (Lib.hid (by rw [HR.out, HX.out])))
        have HOG : Hid (∀ W, Below w.heap.size w W → Calls Tryd.prog 21 #[.int .i64 (u.toNat : Int), .slice B NB cb] W fun e w' => e = .returned (.agg (B8 E).toArray) ∧ Below W.heap.size W w') := Lib.hid (by
          intro W hW
          rw [HNB.out, HE.out]
          exact of_go (u.toNat : Int) B b cb W ((HB.out.below hW).more hW.size) (by rw [← HNB.out]; exact hcb) u (by rw [IntKind.wrap_u8']; have := u.toNat_lt; omega) (by have := inp_few u HFB.out.symm; omega) (HT.out.below hW HT.out.1) Q (Lib.hid (by rw [HQ.out, HY.out])))
        have HRL := Lib.hid (show R.length = 32 by rw [HR.out]; exact sha_len _)
        have HQL := Lib.hid (show Q.length = 32 by rw [HQ.out]; exact sha_len _)
        have HDL := Lib.hid (show D.length = 16 by rw [HD.out, List.length_take, HRL.out]; rfl)
        have HEL := Lib.hid (show E.length = 16 by rw [HE.out, List.length_take, HQL.out]; rfl)
        by_cases hlt : j < NA
        all_goals
          go_upto_region 13 with (first
            | (go_at_call 23; (with_reducible refine (HIN.out _ HB1.out).mono ?_); rintro e w2 ⟨v2, rfl, ho2, hb2⟩; have HO2 := Lib.hid ho2; have HB2 := Lib.hid (HB1.out.trans (hb2.mono HB1.out.size)); have K2 := Lib.hid (K1.out.below hb2 K1.out.lt); have q1 : w2.cell? ⟨w.heap.size, 1, none⟩ = some (.int .u8 (u.toNat : Int)) := K2.out.cell 1; clear ho2 hb2)
            | (go_at_call 23; (with_reducible refine (HIM.out _ HB2.out).mono ?_); rintro e w3 ⟨v3, rfl, ho3, hb3⟩; have HO3 := Lib.hid ho3; have HC3 := Lib.hid hb3; have HB3 := Lib.hid (HB2.out.trans (hb3.mono HB2.out.size)); have K3 := Lib.hid (K2.out.below hb3 K2.out.lt); clear ho3 hb3))
          clear q0 q1 K1 K2 HIN HIM HB1
          have q3 : w3.cell? ⟨w.heap.size, 0, none⟩ = some (.int .u8 (t.toNat : Int)) := K3.out.cell 0
          have HBD := Lib.hid (show (B8 D).length = 16 by rw [B8_len, HDL.out])
          have HBE := Lib.hid (show (B8 E).length = 16 by rw [B8_len, HEL.out])
          have HBR := Lib.hid (show (B8 R).length = 32 by rw [B8_len, HRL.out])
          have HBQ := Lib.hid (show (B8 Q).length = 32 by rw [B8_len, HQL.out])
          go_cut [12] (fun s12 wx => ∃ g, s12 = .pointer (some ⟨g, 0, none⟩) ∧ Hid (Blk wx g 44 (B8 D)) ∧ Hid (Below w3.heap.size w3 wx))
          case first =>
            go_wp2_with (first
              | (go_at_call 21; (with_reducible refine (HOF.out _ HB3.out).mono ?_); rintro e w4 ⟨rfl, hb4⟩)
              | (with_reducible refine wpList_store_row rfl 44 (.tmp 12) (.tmp 81) rfl w4.heap.size (B8 D).toArray rfl rfl 44 _ (heap_alloc_new w4 _) (size44' _ HDL.out) (by simp [HBD.out]) (one8 _) ?_))
            go_meet
            exact ⟨w4.heap.size, rfl, Lib.hid (heap_setRow _ w4.heap.size (B8 D).toArray _ 44 (heap_alloc_new w4 _)), Lib.hid (belowRow (hb4.alloc hb4.size _) hb4.size _)⟩
          case rest =>
            obtain ⟨g12, rfl, K12, HW4⟩ := hcut
            rename World => wd
            clear q3
            have q4 : wd.cell? ⟨w.heap.size, 1, none⟩ = some (.int .u8 (u.toNat : Int)) := (K3.out.below HW4.out K3.out.lt).cell 1
            have HB4 := Lib.hid (HB3.out.trans (HW4.out.mono HB3.out.size))
            go_upto_region 14 with (fail)
            go_cut [13] (fun s13 wx => ∃ g, s13 = .pointer (some ⟨g, 0, none⟩) ∧ Hid (Blk wx g 44 (B8 E)) ∧ Hid (Below wd.heap.size wd wx))
            case first =>
              go_wp2_with (first
                | (go_at_call 21; (with_reducible refine (HOG.out _ HB4.out).mono ?_); rintro e w5 ⟨rfl, hb5⟩)
                | (with_reducible refine wpList_store_row rfl 44 (.tmp 13) (.tmp 86) rfl w5.heap.size (B8 E).toArray rfl rfl 44 _ (heap_alloc_new w5 _) (size44' _ HEL.out) (by simp [HBE.out]) (one8 _) ?_))
              go_meet
              exact ⟨w5.heap.size, rfl, Lib.hid (heap_setRow _ w5.heap.size (B8 E).toArray _ 44 (heap_alloc_new w5 _)), Lib.hid (belowRow (hb5.alloc hb5.size _) hb5.size _)⟩
            case rest =>
              obtain ⟨g13, rfl, K13, HW5⟩ := hcut
              rename World => we
              clear q4
              have HB5 := Lib.hid (HB4.out.trans (HW5.out.mono HB4.out.size))
              have HSX : Hid (∀ W, Below wd.heap.size wd W → Calls Tryd.prog 11 #[v2] W fun e w' => e = .returned (.agg (B8 R).toArray) ∧ Below W.heap.size W w') := Lib.hid (by
                intro W hW
                exact hsum_v X v2 _ w3 W (own_below HO2.out HC3.out) (HW4.out.trans (hW.mono HW4.out.size)) (by have := HXL.out; omega) (HT.out.below (HB4.out.trans (hW.mono HB4.out.size)) HT.out.1) R HR)
              have HSY : Hid (∀ W, Below wd.heap.size wd W → Calls Tryd.prog 11 #[v3] W fun e w' => e = .returned (.agg (B8 Q).toArray) ∧ Below W.heap.size W w') := Lib.hid (by
                intro W hW
                exact hsum_v Y v3 _ w3 W HO3.out (HW4.out.trans (hW.mono HW4.out.size)) (by have := HYL.out; omega) (HT.out.below (HB4.out.trans (hW.mono HB4.out.size)) HT.out.1) Q HQ)
              go_upto_region 15 with (fail)
              go_cut [14] (fun s14 wx => ∃ g, s14 = .pointer (some ⟨g, 0, none⟩) ∧ Hid (Blk wx g 24 (B8 R)) ∧ Hid (Below we.heap.size we wx))
              case first =>
                go_wp2_with (first
                  | (go_at_call 11; (with_reducible refine (HSX.out _ HW5.out).mono ?_); rintro e w6 ⟨rfl, hb6⟩)
                  | (with_reducible refine wpList_store_row rfl 24 (.tmp 14) (.tmp 88) rfl w6.heap.size (B8 R).toArray rfl rfl 24 _ (heap_alloc_new w6 _) (size24' _ HRL.out) (by simp [HBR.out]) (one8 _) ?_))
                go_meet
                exact ⟨w6.heap.size, rfl, Lib.hid (heap_setRow _ w6.heap.size (B8 R).toArray _ 24 (heap_alloc_new w6 _)), Lib.hid (belowRow (hb6.alloc hb6.size _) hb6.size _)⟩
              case rest =>
                obtain ⟨g14, rfl, K14, HW6⟩ := hcut
                rename World => wf
                have HB6 := Lib.hid (HW5.out.trans (HW6.out.mono HW5.out.size))
                go_upto_region 16 with (fail)
                go_cut [15] (fun s15 wx => ∃ g, s15 = .pointer (some ⟨g, 0, none⟩) ∧ Hid (Blk wx g 24 (B8 Q)) ∧ Hid (Below wf.heap.size wf wx))
                case first =>
                  go_wp2_with (first
                    | (go_at_call 11; (with_reducible refine (HSY.out _ HB6.out).mono ?_); rintro e w7 ⟨rfl, hb7⟩)
                    | (with_reducible refine wpList_store_row rfl 24 (.tmp 15) (.tmp 90) rfl w7.heap.size (B8 Q).toArray rfl rfl 24 _ (heap_alloc_new w7 _) (size24' _ HQL.out) (by simp [HBQ.out]) (one8 _) ?_))
                  go_meet
                  exact ⟨w7.heap.size, rfl, Lib.hid (heap_setRow _ w7.heap.size (B8 Q).toArray _ 24 (heap_alloc_new w7 _)), Lib.hid (belowRow (hb7.alloc hb7.size _) hb7.size _)⟩
                case rest =>
                  obtain ⟨g15, rfl, K15, HW7⟩ := hcut
                  rename World => wg
                  have J14 := Lib.hid (K14.out.below HW7.out K14.out.lt)
                  have J13 := Lib.hid ((K13.out.below HW6.out K13.out.lt).below HW7.out (Nat.lt_of_lt_of_le K13.out.lt HW6.out.size))
                  have J12' := Lib.hid (K12.out.below HW5.out K12.out.lt)
                  have J12 := Lib.hid ((J12'.out.below HW6.out J12'.out.lt).below HW7.out (Nat.lt_of_lt_of_le J12'.out.lt HW6.out.size))
                  have HBW := Lib.hid ((HB4.out.trans (HB6.out.mono HB4.out.size)).trans (HW7.out.mono (HB4.out.trans (HB6.out.mono HB4.out.size)).size))
                  have L12 := J12.out.lt
                  have L13 := J13.out.lt
                  have L14 := J14.out.lt
                  have L15 := K15.out.lt
                  have hcl := Lib.hid (show ∀ v2' : Value, ∀ w' : World, Below w3.heap.size w3 w' → (convert 22 9 v2).run Tryd.prog w' = .ok (.string ⟨X.toArray⟩) w' from fun _ w' hw' => conv_v X v2 _ w3 w' (own_below HO2.out HC3.out) hw' HXN.out)
                  have hcm := Lib.hid (show ∀ w' : World, Below w3.heap.size w3 w' → (convert 22 9 v3).run Tryd.prog w' = .ok (.string ⟨Y.toArray⟩) w' from fun w' hw' => conv_v Y v3 _ w3 w' HO3.out hw' HYN.out)
                  have HW3 := Lib.hid (HW4.out.trans ((HB6.out.trans (HW7.out.mono HB6.out.size)).mono HW4.out.size))
                  clear HSX HSY HOF HOG K14 K13 K12 J12' HW4 HW5 HW6 HW7 HB4 HB6 HB3 HB2 HB0 HK0 HO2 HO3 HC3 K3
                  go_wp2_with fail
                  go_loopw [16, 17] (fun s16 s17 wr => ∃ (i : Nat) (s : Bool), i ≤ 16 ∧ s16 = .bool s ∧ s17 = .int .i64 i ∧ Hid (s = (R.take i == Q.take i)) ∧ Hid (Below wg.heap.size wg wr)) (fun _ s17 _ => 16 - (intOf s17).toNat)
                  case atStart => exact ⟨0, true, by omega, rfl, rfl, Lib.hid (by simp), Lib.hid (Below.refl _ _)⟩
                  case round =>
                    rename World => wh
                    obtain ⟨i, s, hi, rfl, rfl, HI, HH⟩ := hrel
                    by_cases hi16 : i < 16
                    · have hiR : i < R.length := by have := HRL.out; omega
                      have hiQ : i < Q.length := by have := HQL.out; omega
                      obtain ⟨x, hx⟩ : ∃ x, x = R[i] := ⟨_, rfl⟩
                      obtain ⟨y, hy⟩ : ∃ y, y = Q[i] := ⟨_, rfl⟩
                      have c1 : wh.cell? ⟨g14, i, none⟩ = some (.int .u8 (x.toNat : Int)) := by rw [(J14.out.below HH.out J14.out.lt).cell, B8_get _ _ hiR, hx]
                      have c2 : wh.cell? ⟨g15, i, none⟩ = some (.int .u8 (y.toNat : Int)) := by rw [(K15.out.below HH.out K15.out.lt).cell, B8_get _ _ hiQ, hy]
                      obtain ⟨q, hq⟩ : ∃ q, q = (x == y) := ⟨_, rfl⟩
                      have hqq : ((x.toNat : Int) == (y.toNat : Int)) = q := by
                        rw [hq, Bool.eq_iff_iff]; simp only [beq_iff_eq]
                        constructor
                        · intro h1; exact UInt8.toNat_inj.1 (by omega)
                        · intro h1; rw [h1]
                      have hn : (R.take (i + 1) == Q.take (i + 1)) = ((R.take i == Q.take i) && q) := by
                        rw [List.take_succ_eq_append_getElem hiR, List.take_succ_eq_append_getElem hiQ, ← hx, ← hy, hq, Bool.eq_iff_iff, Bool.and_eq_true, beq_iff_eq, beq_iff_eq, beq_iff_eq]
                        constructor
                        · intro h1
                          have h2 := List.append_inj h1 (by rw [List.length_take, List.length_take]; omega)
                          exact ⟨h2.1, by simpa using h2.2⟩
                        · rintro ⟨h1, h2⟩; rw [h1, h2]
                      have HN := Lib.hid hn
                      clear hx hy hq hn
                      cases s with
                      | true =>
                        go_wp2
                        go_quiet (fail)
                        go_wp2
                        go_roundw
                        case rel => exact ⟨i + 1, q, by omega, rfl, by go_num, Lib.hid (by rw [HN.out, ← HI.out, Bool.true_and]), Lib.hid (below_drewN HH.out _)⟩
                        case measure => simp only [intOf]; omega
                      | false =>
                        go_wp2
                        go_quiet (fail)
                        go_wp2
                        go_roundw
                        case rel => exact ⟨i + 1, false, by omega, rfl, by go_num, Lib.hid (by rw [HN.out, ← HI.out, Bool.false_and]), Lib.hid (below_drewN HH.out _)⟩
                        case measure => simp only [intOf]; omega
                    · obtain rfl : i = 16 := by omega
                      have hs : s = (D == E) := by rw [HI.out, HD.out, HE.out]
                      have HJ12 := Lib.hid (J12.out.below HH.out J12.out.lt).at
                      have HJ13 := Lib.hid (J13.out.below HH.out J13.out.lt).at
                      have hc2 := hcl.out v2 wh (HW3.out.trans (HH.out.mono HW3.out.size))
                      have hc3 := hcm.out wh (HW3.out.trans (HH.out.mono HW3.out.size))
                      have hxy : (X == Y) = false := by rw [beq_eq_false_iff_ne]; exact HNE.out
                      have he44 := eql44 D E HDL.out HEL.out
                      rw [← hs] at he44
                      have HEND := Lib.hid (HBW.out.trans (HH.out.mono HBW.out.size))
                      clear hs hi16 hi
                      cases s with
                      | true =>
                        go_wp2_with (first
                          | (refine wpList_load_guarded 44 (.tmp 12) rfl ⟨g12, 0, none⟩ rfl (by rfl) (B8 D) (.array 16 5) HJ12.out Tryd.underlying44 rfl (size44l _ HDL.out) ?_)
                          | (refine wpList_load_guarded 44 (.tmp 13) rfl ⟨g13, 0, none⟩ rfl (by rfl) (B8 E) (.array 16 5) HJ13.out Tryd.underlying44 rfl (size44l _ HEL.out) ?_))
                        go_ret
                        exact ⟨rfl, HEND.out⟩
                      | false =>
                        go_wp2_with (first
                          | (refine wpList_load_guarded 44 (.tmp 12) rfl ⟨g12, 0, none⟩ rfl (by rfl) (B8 D) (.array 16 5) HJ12.out Tryd.underlying44 rfl (size44l _ HDL.out) ?_)
                          | (refine wpList_load_guarded 44 (.tmp 13) rfl ⟨g13, 0, none⟩ rfl (by rfl) (B8 E) (.array 16 5) HJ13.out Tryd.underlying44 rfl (size44l _ HEL.out) ?_))
                        go_ret
                        exact ⟨rfl, HEND.out⟩
theorem separates_walk (t u : UInt8) (A B : Option Addr) (a b : List ByteArray) (ca cb : Nat) (w : World) (hra : Rd w w.heap.size A (St a)) (hrb : Rd w w.heap.size B (St b)) (hca : a.length ≤ ca) (hcb : b.length ≤ cb)
    (hna : a.length ≤ 281474976710656) (hnb : b.length ≤ 281474976710656) (hsa : ∀ s ∈ a, s.size ≤ 281474976710656) (hsb : ∀ s ∈ b, s.size ≤ 281474976710656) (ht : Tab 1 w) :
    Calls Tryd.prog 8 #[.agg (T2 t u).toArray, .slice A a.length ca, .slice B b.length cb] w fun e w' => e = .returned (.bool true) ∧ Below w.heap.size w w' := by
  cases hfa : few a with
  | false => exact separates_few t u A B a b ca cb w hra hrb hca hcb hna hnb hsa hsb ht (.inl hfa)
  | true =>
    cases hfb : few b with
    | false => exact separates_few t u A B a b ca cb w hra hrb hca hcb hna hnb hsa hsb ht (.inr hfb)
    | true => exact separates_go t u A B a b ca cb w hra hrb hca hcb ht hfa hfb _ _ _ _ _ _ (Lib.hid rfl) (Lib.hid rfl) (Lib.hid rfl) (Lib.hid rfl) (Lib.hid rfl) (Lib.hid rfl)
end Go.Proofs.YtfagpeacilfaaaaDoor
