/-
  The contracts of the laws' Has and Inside.
  Conditions: at most 2^30 leaves.
-/
import Derived.Test.YtofccgkgjcnfbaaDoorOwns
namespace Go.Proofs.YtofccgkgjcnfbaaDoor
open Go.RowKit Wr Sh
set_option linter.unusedVariables false
set_option maxRecDepth 100000

/-- The place of a key, or -1. -/
def hasI (L : List Lf) (k : ByteArray) : Int := match L.findIdx? (fun x => decide (x.1 = k)) with | some i => (i : Int) | none => -1
def inB (a b : ByteArray) (x : Lf) : Bool := !sl x.1 a && sl x.1 b
def insideR (L : List Lf) (a b : ByteArray) : List Lf := L.filter (inB a b)
theorem findIdx_take {L : List Lf} {p : Lf → Bool} (j : Nat) (hj : j < L.length) (h : ∀ x ∈ L.take j, p x = false) (hp : p L[j] = true) : L.findIdx? p = some j := by
  rw [List.findIdx?_eq_some_iff_getElem]
  refine ⟨hj, hp, fun i hi => ?_⟩
  have := h L[i] (by
    rw [List.mem_iff_getElem]
    exact ⟨i, by rw [List.length_take]; omega, by rw [List.getElem_take]⟩)
  rw [this]; simp
theorem findIdx_all {L : List Lf} {p : Lf → Bool} (h : ∀ x ∈ L, p x = false) : L.findIdx? p = none := by
  rw [List.findIdx?_eq_none_iff]; exact h
set_option maxHeartbeats 4000000 in
theorem has_any (A : Option Addr) (L : List Lf) (c : Nat) (key : ByteArray) (w : World) (hl : L.length ≤ 1073741824) (hr : Rd w w.heap.size A (LC L)) :
    Calls Tryd.prog 43 #[.slice A L.length c, .string key] w fun e w' => e = .returned (.int .i64 (hasI L key)) ∧ w' = w := by
  obtain ⟨N, hN⟩ : ∃ N, N = L.length := ⟨_, rfl⟩
  rw [← hN] at hl ⊢
  have HN := Lib.hid hN
  have HR := Lib.hid hr
  clear hN hr
  go_enter Tryd.func43, Tryd.ntmps43
  go_wp2
  go_loopw [5] (fun s5 wr => ∃ j : Nat, j ≤ N ∧ s5 = .int .i64 j ∧ Hid (∀ x ∈ L.take j, decide (x.1 = key) = false) ∧ w = wr)
    (fun s5 _ => N - (intOf s5).toNat)
  case atStart => exact ⟨0, Nat.zero_le _, rfl, Lib.hid (fun x hx => by simp at hx), rfl⟩
  case round =>
    obtain ⟨j, hj, rfl, hall, rfl⟩ := hrel
    by_cases hlt : j < N
    · have hjl : j < L.length := by have := HN.out; omega
      obtain ⟨g, o, rfl, hg, hcell⟩ := HR.out (by intro e; have := congrArg List.length e; rw [LC_len] at this; simp only [List.length_nil] at this; omega)
      have hc1 := hcell _ _ (LC_at L j hjl).1
      obtain ⟨k, hk⟩ : ∃ k, k = L[j].1 := ⟨_, rfl⟩
      rw [← hk] at hc1
      have HK := Lib.hid hk
      clear hcell hk
      by_cases he : k = key
      · subst he
        have HF := Lib.hid (show hasI L k = (j : Int) by unfold hasI; rw [findIdx_take j hjl hall.out (by rw [← HK.out]; simp)])
        clear HK hall
        go_wp2
        go_ret
        exact ⟨by rw [HF.out]; rfl, rfl⟩
      · have he2 : (k.toList == key.toList) = false := by rw [beq_eq_false_iff_ne]; exact fun e => he (str_ext e)
        have HA := Lib.hid (show ∀ x ∈ L.take (j + 1), decide (x.1 = key) = false from fun x hx => by
          rw [List.take_succ_eq_append_getElem hjl, List.mem_append] at hx
          rcases hx with h | h
          · exact hall.out x h
          · rw [List.mem_singleton] at h; subst h; rw [← HK.out]; exact decide_eq_false he)
        clear HK hall hjl
        go_wp2
        go_roundw
        case rel => exact ⟨j + 1, by omega, by go_num, HA, by first | rfl | trivial⟩
        case measure => simp only [intOf]; omega
    · obtain rfl : j = N := by omega
      have HF := Lib.hid (show hasI L key = -1 by unfold hasI; rw [findIdx_all (by have := hall.out; rw [HN.out, List.take_length] at this; exact this)])
      go_wp2
      go_ret
      exact ⟨by rw [HF.out]; rfl, rfl⟩
set_option maxHeartbeats 4000000 in
theorem inside_any (A : Option Addr) (L : List Lf) (c : Nat) (a b : ByteArray) (w : World) (hl : L.length ≤ 1073741824) (hr : Rd w w.heap.size A (LC L)) :
    Calls Tryd.prog 44 #[.slice A L.length c, .string a, .string b] w fun e w' => ∃ A' c', e = .returned (.slice A' (insideR L a b).length c') ∧ (insideR L a b).length ≤ c' ∧ (A' = none → c' = 0) ∧ Rd w' w'.heap.size A' (LC (insideR L a b)) ∧ Below w.heap.size w w' := by
  obtain ⟨N, hN⟩ : ∃ N, N = L.length := ⟨_, rfl⟩
  rw [← hN] at hl ⊢
  have HN := Lib.hid hN
  have HR := Lib.hid hr
  clear hN hr
  go_enter Tryd.func44, Tryd.ntmps44
  go_wp2
  go_loopw [7, 8] (fun s7 s8 wr => ∃ j n : Nat, j ≤ N ∧ n ≤ j ∧ s8 = .int .i64 j ∧ Hid (n = (insideR (L.take j) a b).length) ∧ wr.ownsRow w.heap.size 87 2 s7 n (LC (insideR (L.take j) a b)) ∧ Below w.heap.size w wr)
    (fun _ s8 _ => N - (intOf s8).toNat)
  case atStart => exact ⟨0, 0, Nat.zero_le _, Nat.zero_le _, rfl, Lib.hid rfl, World.ownsRow_nil _ _ _ _, Below.refl _ _⟩
  case round =>
    obtain ⟨j, n, hj, hnj, rfl, hn, ho, hb⟩ := hrel
    by_cases hlt : j < N
    · have hjl : j < L.length := by have := HN.out; omega
      obtain ⟨g, o, rfl, hg, hcell⟩ := (HR.out.below hb) (by intro e; have := congrArg List.length e; rw [LC_len] at this; simp only [List.length_nil] at this; omega)
      have hc1 := hcell _ _ (LC_at L j hjl).1
      have hc2 := hcell _ _ (LC_at L j hjl).2
      obtain ⟨k, hk⟩ : ∃ k, k = L[j].1 := ⟨_, rfl⟩
      obtain ⟨v, hv⟩ : ∃ v, v = L[j].2 := ⟨_, rfl⟩
      have HT := Lib.hid (show insideR (L.take (j + 1)) a b = insideR (L.take j) a b ++ (if inB a b (k, v) = true then [(k, v)] else []) by
        unfold insideR
        rw [List.take_succ_eq_append_getElem hjl, List.filter_append, hk, hv, List.filter_cons, List.filter_nil])
      rw [← hk] at hc1
      rw [← hv] at hc2
      have HO := Lib.hid ho
      have HB := Lib.hid hb
      clear hcell hk hv ho hb hg hjl
      have h1 : Op.bytesLess k.toList a.toList = sl k a := lss_str k a
      have h2 : Op.bytesLess k.toList b.toList = sl k b := lss_str k b
      cases h3 : sl k a with
      | true =>
        rw [h3] at h1
        have HT2 := Lib.hid (show insideR (L.take (j + 1)) a b = insideR (L.take j) a b by rw [HT.out, if_neg (by unfold inB; rw [h3]; simp), List.append_nil])
        clear HT h2 h3
        go_wp2
        go_roundw
        case rel => exact ⟨j + 1, n, by omega, by omega, by go_num, by rw [HT2.out]; exact hn, by rw [HT2.out]; exact HO.out, HB.out⟩
        case measure => simp only [intOf]; omega
      | false =>
        rw [h3] at h1
        cases h4 : sl k b with
        | false =>
          rw [h4] at h2
          have HT2 := Lib.hid (show insideR (L.take (j + 1)) a b = insideR (L.take j) a b by rw [HT.out, if_neg (by unfold inB; rw [h4]; simp), List.append_nil])
          clear HT h3 h4
          go_wp2
          go_roundw
          case rel => exact ⟨j + 1, n, by omega, by omega, by go_num, by rw [HT2.out]; exact hn, by rw [HT2.out]; exact HO.out, HB.out⟩
          case measure => simp only [intOf]; omega
        | true =>
          rw [h4] at h2
          have HT2 := Lib.hid (show insideR (L.take (j + 1)) a b = insideR (L.take j) a b ++ [(k, v)] by rw [HT.out, if_pos (by unfold inB; rw [h3, h4]; rfl)])
          clear HT h3 h4
          have O2 := Lib.hid (HO.out.alloc (.cells #[.string k, .string v] 87))
          have B2 := Lib.hid (show Below w.heap.size w (wr.alloc (.cells #[.string k, .string v] 87)) from HB.out.alloc HB.out.size _)
          have R2 := Lib.hid (rd_new wr (LC [(k, v)]) 87)
          have hn2 : n + 1 ≤ 4294967296 := by omega
          go_wp2_with (first
            | (refine wpList_load_at rfl 87 (.tmp 34) rfl ⟨g, o + j * 2, none⟩ rfl [.string k, .string v] _ (fun i u hu => by rw [Addr.add_lit]; match i, hu with | 0, hu => exact hc1.trans hu | 1, hu => exact hc2.trans hu) Tryd.underlying87 rfl (by kernel_rfl) ?_)
            | (refine wpList_append_leaves (T := 24) (e := 87) (by kernel_rfl) info87 rfl (.tmp 31) (.tmp 36) rfl w.heap.size u7 n (LC (insideR (L.take j) a b)) rfl O2.out (some ⟨wr.heap.size, 0, none⟩) 1 1 _ [(k, v)] rfl (fun e => by cases e) rfl R2.out hn2 B2.out.size ?_; intro v5 w5 O5 G5; have B5 := Lib.hid (below_app B2.out O2.out G5); replace O5 := Lib.hid O5; clear G5))
          go_roundw
          case rel => exact ⟨j + 1, n + 1, by omega, by omega, by go_num, Lib.hid (by rw [HT2.out, List.length_append, hn.out]; rfl), by rw [HT2.out, LC_append]; exact O5.out, B5.out⟩
          case measure => simp only [intOf]; omega
    · obtain rfl : j = N := by omega
      go_wp2
      go_ret
      obtain ⟨A', c', rfl, h1, h2, h3⟩ := own_form ho
      have e : n = (insideR L a b).length := by rw [hn.out, HN.out, List.take_length]
      rw [HN.out, List.take_length] at h3
      subst e
      exact ⟨A', c', rfl, h1, h2, h3, hb⟩
end Go.Proofs.YtofccgkgjcnfbaaDoor
