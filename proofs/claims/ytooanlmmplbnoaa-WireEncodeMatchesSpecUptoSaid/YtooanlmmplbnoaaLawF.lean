/-
  The law WireTruncated returns true, whatever the arguments: the walk of LawE with wire's own contracts laid in.
  No condition.
-/
import Derived.Test.YtooanlmmplbnoaaLawE
namespace Go.Proofs.Ytooanlmmplbnoaa
open Go.RowKit Wr
set_option linter.unusedVariables false

theorem flat_strs (x : List ByteArray) : (((bs x).map encStr).flatten).length ≤ 9 * x.length + (x.map (·.size)).sum := by
  induction x with
  | nil => simp [bs]
  | cons y x ih =>
    have h9 := (enc_le (y.data.toList.length : Int)).2
    have hy := size_list y
    have he : (encStr y.data.toList).length ≤ 9 + y.size := by unfold encStr; rw [List.length_append]; omega
    simp only [bs, List.map_cons, List.flatten_cons, List.length_append, List.length_cons, List.sum_cons] at ih ⊢
    omega
theorem encStrs_long (x : List ByteArray) : (encStrs (bs x)).length ≤ 9 + 9 * sumTo x x.length := by
  have h := flat_strs x
  have h9 := (enc_le ((bs x).length : Int)).2
  unfold encStrs encList sumTo
  rw [List.length_append, List.take_length]
  omega
theorem sumTo_elem (x : List ByteArray) (y : ByteArray) (h : y ∈ x) : y.size ≤ sumTo x x.length := by
  unfold sumTo
  rw [List.take_length]
  have : y.size ≤ (x.map (·.size)).sum := by
    induction x with
    | nil => simp at h
    | cons z x ih =>
      rcases List.mem_cons.1 h with rfl | h
      · simp
      · have := ih h; simp only [List.map_cons, List.sum_cons]; omega
  omega
theorem encInts_long (l : List Int) : (encInts l).length ≤ 9 + 9 * l.length := by
  unfold encInts; rw [← partE_all]
  exact partE_len enc l 9 l.length (fun x _ => (enc_le x).2) (Nat.le_refl _)
theorem encDigs_long (d : List (List UInt8)) (h : ∀ y ∈ d, okDig y) : (encDigs d).length ≤ 9 + 16 * d.length := by
  unfold encDigs; rw [← partE_all]
  exact partE_len _ d 16 d.length (fun x hx => Nat.le_of_eq (h x hx)) (Nat.le_refl _)

set_option maxRecDepth 100000 in
set_option maxHeartbeats 4000000 in
theorem truncated_walk (n : Int) (s : ByteArray) (A1 A2 A3 : Option Addr) (l : List Int) (x : List ByteArray) (d : List (List UInt8)) (c1 c2 c3 : Nat) (w : World)
    (n0 : -9223372036854775808 ≤ n) (n1 : n ≤ 9223372036854775807) (hs : s.size ≤ 281474976710656) (hl : l.length ≤ 281474976710656) (hd : d.length ≤ 281474976710656) (hx : x.length ≤ 281474976710656) (hxs : ∀ y ∈ x, y.size ≤ 281474976710656)
    (rl : Rd w w.heap.size A1 (I64 l)) (rx : Rd w w.heap.size A2 (St x)) (rd : Rd w w.heap.size A3 (Dg d)) (hc1 : l.length ≤ c1) (hc2 : x.length ≤ c2) (hc3 : d.length ≤ c3) (ol : ∀ y ∈ l, okInt y) (od : ∀ y ∈ d, okDig y) :
    Calls Try.prog 9 #[.int .i64 n, .string s, .slice A1 l.length c1, .slice A2 x.length c2, .slice A3 d.length c3] w fun e w' => e = .returned (.bool true) ∧ Below w.heap.size w w' := by
  by_cases hbig : 400 < s.size + 9 * l.length + 16 * d.length
  · go_enter Try.func9, Try.ntmps9
    go_wp2_with fail
    refine (sanity_any _).mono ?_; rintro e w' ⟨rfl, hb⟩
    go_wp2_with fail
    go_ret
    exact ⟨rfl, hb⟩
  by_cases h40 : 40 < x.length
  · go_enter Try.func9, Try.ntmps9
    go_wp2_with fail
    refine (sanity_any _).mono ?_; rintro e w' ⟨rfl, hb⟩
    go_wp2_with fail
    go_ret
    exact ⟨rfl, hb⟩
  have hle := sumTo_le x 281474976710656 hxs x.length (Nat.le_refl _)
  have hmul : x.length * 281474976710656 ≤ 40 * 281474976710656 := Nat.mul_le_mul_right _ (by omega)
  have hfew := few_any A2 x c2 w w.heap.size rx (by omega)
  by_cases hf : sumTo x x.length ≤ 2000
  · rw [decide_eq_true hf] at hfew
    have h9 := enc_le n
    have s9 := enc_le (s.data.toList.length : Int)
    have sz := size_list s
    have bS : (encStr s.data.toList).length ≤ 9 + s.size := by unfold encStr; rw [List.length_append]; omega
    have bL := encInts_long l
    have bX := encStrs_long x
    have bD := encDigs_long d od
    have oX : ∀ y ∈ bs x, okStr y := by
      intro y hy
      obtain ⟨z, hz, rfl⟩ := List.mem_map.1 hy
      have h1 := hxs z hz
      have h2 := size_list z
      unfold okStr; omega
    exact truncated_core n s A1 A2 A3 l x d c1 c2 c3 w (enc n) (encStr s.data.toList) (encInts l) (encStrs (bs x)) (encDigs d) hs hl hd hx hbig h40 (Lib.hid hfew)
      (Lib.hid fun W hW => (int_s n W n0 n1).mono fun e w' ⟨A, c, h1, h2, _, h3, h4⟩ => ⟨A, c, h1, h2, h3, h4⟩)
      (Lib.hid fun W hW => (bytes_s s W (by omega)).mono fun e w' ⟨A, c, h1, h2, _, h3, h4⟩ => ⟨A, c, h1, h2, h3, h4⟩)
      (Lib.hid fun W hW => (ints_s A1 l c1 W ((rl.below hW).more hW.size) hc1 (by omega) ol).mono fun e w' ⟨A, c, h1, h2, _, h3, h4⟩ => ⟨A, c, h1, h2, h3, h4⟩)
      (Lib.hid fun W hW => (strings_s A2 x c2 W ((rx.below hW).more hW.size) hc2 (by omega) (by omega) (fun y hy => by have := sumTo_elem x y hy; omega)).mono fun e w' ⟨A, c, h1, h2, _, h3, h4⟩ => ⟨A, c, h1, h2, h3, h4⟩)
      (Lib.hid fun W hW => (digests_s A3 d c3 W ((rd.below hW).more hW.size) hc3 (by omega) od).mono fun e w' ⟨A, c, h1, h2, _, h3, h4⟩ => ⟨A, c, h1, h2, h3, h4⟩)
      (by omega) (by omega) (by omega) (by omega) (by omega)
      (Lib.hid fun W A c i h1 h2 h3 => getInt_cut A n c i W h1 h2 h3)
      (Lib.hid fun W A c i h1 h2 h3 => getBytes_cut A _ c i W h1 h2 (by omega) h3)
      (Lib.hid fun W A c i h1 h2 h3 => getInts_cut A l c i W h1 h2 (by omega) (by omega) ol h3)
      (Lib.hid fun W A c i h1 h2 h3 => getStrings_cut A (bs x) c i W h1 h2 (by omega) (by rw [bs_len]; omega) oX h3)
      (Lib.hid fun W A c i h1 h2 h3 => getDigests_cut A d c i W h1 h2 (by omega) (by omega) od h3)
  · rw [decide_eq_false hf] at hfew
    have HF := Lib.hid hfew
    clear hfew hle hmul
    go_enter Try.func9, Try.ntmps9
    go_wp2_with fail
    refine HF.out.mono ?_; rintro e w' ⟨rfl, rfl⟩
    go_wp2_with fail
    refine (sanity_any _).mono ?_; rintro e w' ⟨rfl, hb⟩
    go_wp2_with fail
    go_ret
    exact ⟨rfl, hb⟩
end Go.Proofs.Ytooanlmmplbnoaa
