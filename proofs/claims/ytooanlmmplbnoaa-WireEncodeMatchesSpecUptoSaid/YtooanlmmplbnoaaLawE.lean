/-
  The walk of the law WireTruncated: it returns true, whatever the arguments.
  No condition.
-/
import Derived.Test.YtooanlmmplbnoaaCut
import Derived.Outline
namespace Go.Proofs.Ytooanlmmplbnoaa
open Go.RowKit Wr
set_option linter.unusedVariables false
theorem sumTo_le (l : List ByteArray) (M : Nat) (h : ∀ y ∈ l, y.size ≤ M) : ∀ j, j ≤ l.length → sumTo l j ≤ l.length + j * M := by
  intro j
  induction j with
  | zero => intro _; rw [sumTo_zero]; omega
  | succ j ih =>
    intro hj
    have h1 := h l[j] (List.getElem_mem _)
    have h2 := ih (by omega)
    rw [sumTo_succ l j hj, Nat.succ_mul]; omega
theorem slice_to (A : Option Addr) (L c u : Nat) (h1 : u ≤ L) (h2 : L ≤ c) (W : World) : (Instr.sliceAt 28 (.slice A L c) none (some (.int .i64 (u : Int))) none).run Try.prog W = .ok (.slice A u c) W := by
  have hu2 : Try.prog.underlying 28 = some (.slice (Try.prog.elem 28)) := by kernel_rfl
  have he : Try.prog.elem 28 = 5 := by kernel_rfl
  have h5 : (sizeOf 5).run Try.prog W = .ok 1 W := by kernel_rfl
  rw [run_sliceAt_slice W 28 _ _ _ _ hu2, run_slice_h W 28 A L c hu2 .i64 u (by omega) (by omega), he, h5]
  simp only [Result.andThen, sliced, Int.toNat_natCast, Nat.sub_zero]
  by_cases h0 : c = 0
  · simp [h0]
  · cases A with
    | none => simp [h0]
    | some a => simp [h0, Addr.add]

/-- An encoder's call: a slice of these bytes. -/
def Enc (E : List UInt8) (W : World) (e : Ending) (w' : World) : Prop := ∃ (A : Option Addr) (c : Nat), e = .returned (.slice A E.length c) ∧ E.length ≤ c ∧ Rd w' w'.heap.size A (B8 E) ∧ Below W.heap.size W w'

set_option maxRecDepth 100000 in
set_option maxHeartbeats 4000000 in
theorem truncated_core (n : Int) (s : ByteArray) (A1 A2 A3 : Option Addr) (l : List Int) (x : List ByteArray) (d : List (List UInt8)) (c1 c2 c3 : Nat) (w : World) (E1 E2 E3 E4 E5 : List UInt8)
    (hs : s.size ≤ 281474976710656) (hl : l.length ≤ 281474976710656) (hd : d.length ≤ 281474976710656) (hx : x.length ≤ 281474976710656)
    (hbig : ¬ 400 < s.size + 9 * l.length + 16 * d.length) (h40 : ¬ 40 < x.length) (HF : Hid (Calls Try.prog 11 #[.slice A2 x.length c2] w fun e w' => e = .returned (.bool true) ∧ w = w'))
    (P1 : Hid (∀ W, Below w.heap.size w W → Calls Try.prog 14 #[.int .i64 n] W (Enc E1 W))) (P2 : Hid (∀ W, Below w.heap.size w W → Calls Try.prog 16 #[.string s] W (Enc E2 W)))
    (P3 : Hid (∀ W, Below w.heap.size w W → Calls Try.prog 18 #[.slice A1 l.length c1] W (Enc E3 W))) (P4 : Hid (∀ W, Below w.heap.size w W → Calls Try.prog 20 #[.slice A2 x.length c2] W (Enc E4 W)))
    (P5 : Hid (∀ W, Below w.heap.size w W → Calls Try.prog 22 #[.slice A3 d.length c3] W (Enc E5 W)))
    (b1 : E1.length ≤ 1073741824) (b2 : E2.length ≤ 1073741824) (b3 : E3.length ≤ 1073741824) (b4 : E4.length ≤ 1073741824) (b5 : E5.length ≤ 1073741824)
    (K1 : Hid (∀ (W : World) (A : Option Addr) (c i : Nat), Rd W W.heap.size A (B8 E1) → E1.length ≤ c → i < E1.length → Calls Try.prog 24 #[.slice A i c] W (More W)))
    (K2 : Hid (∀ (W : World) (A : Option Addr) (c i : Nat), Rd W W.heap.size A (B8 E2) → E2.length ≤ c → i < E2.length → Calls Try.prog 26 #[.slice A i c] W (More W)))
    (K3 : Hid (∀ (W : World) (A : Option Addr) (c i : Nat), Rd W W.heap.size A (B8 E3) → E3.length ≤ c → i < E3.length → Calls Try.prog 28 #[.slice A i c] W (More W)))
    (K4 : Hid (∀ (W : World) (A : Option Addr) (c i : Nat), Rd W W.heap.size A (B8 E4) → E4.length ≤ c → i < E4.length → Calls Try.prog 31 #[.slice A i c] W (More W)))
    (K5 : Hid (∀ (W : World) (A : Option Addr) (c i : Nat), Rd W W.heap.size A (B8 E5) → E5.length ≤ c → i < E5.length → Calls Try.prog 34 #[.slice A i c] W (More W))) :
    Calls Try.prog 9 #[.int .i64 n, .string s, .slice A1 l.length c1, .slice A2 x.length c2, .slice A3 d.length c3] w fun e w' => e = .returned (.bool true) ∧ Below w.heap.size w w' := by
  go_enter Try.func9, Try.ntmps9
  go_wp2_with fail
  refine HF.out.mono ?_; rintro e w' ⟨rfl, rfl⟩
  go_wp2_with fail
  refine (P1.out _ (Below.refl _ _)).mono ?_; rintro e w1 ⟨B1, k1, rfl, kc1, r1, hb1⟩
  go_wp2_with fail
  refine (P2.out _ hb1).mono ?_; rintro e w2 ⟨B2, k2, rfl, kc2, r2, hb2⟩
  have hw2 := bt hb1 hb2
  go_wp2_with fail
  refine (P3.out _ hw2).mono ?_; rintro e w3 ⟨B3, k3, rfl, kc3, r3, hb3⟩
  have hw3 := bt hw2 hb3
  go_wp2_with fail
  refine (P4.out _ hw3).mono ?_; rintro e w4 ⟨B4, k4, rfl, kc4, r4, hb4⟩
  have hw4 := bt hw3 hb4
  go_wp2_with fail
  refine (P5.out _ hw4).mono ?_; rintro e w5 ⟨B5, k5, rfl, kc5, r5, hb5⟩
  have hw5 := bt hw4 hb5
  have q4 := (r4.below hb5).more hb5.size
  have q3 := (((r3.below hb4).more hb4.size).below hb5).more hb5.size
  have q2 := (((((r2.below hb3).more hb3.size).below hb4).more hb4.size).below hb5).more hb5.size
  have q1 := (((((((r1.below hb2).more hb2.size).below hb3).more hb3.size).below hb4).more hb4.size).below hb5).more hb5.size
  clear r1 r2 r3 r4 hb1 hb2 hb3 hb4 hb5 hw2 hw3 hw4 P1 P2 P3 P4 P5 HF
  go_wp2_with fail
  generalize hW0 : w5.alloc _ = W0
  have hA : Below w5.heap.size w5 W0 := by rw [← hW0]; exact (Below.refl _ _).alloc (Nat.le_refl _) _
  have QQ : Rd W0 W0.heap.size (some ⟨w5.heap.size, 0, none⟩) [.slice B1 E1.length k1, .slice B2 E2.length k2, .slice B3 E3.length k3, .slice B4 E4.length k4, .slice B5 E5.length k5] := by rw [← hW0]; exact rd_new w5 _ 28
  have Q1 := (q1.below hA).more hA.size
  have Q2 := (q2.below hA).more hA.size
  have Q3 := (q3.below hA).more hA.size
  have Q4 := (q4.below hA).more hA.size
  have Q5 := (r5.below hA).more hA.size
  have hall := bt hw5 hA
  have cells : ∀ (W : World), Below W0.heap.size W0 W → ∀ (j : Nat) (u : Value), [Value.slice B1 E1.length k1, .slice B2 E2.length k2, .slice B3 E3.length k3, .slice B4 E4.length k4, .slice B5 E5.length k5][j]? = some u → W.cell? ⟨w5.heap.size, j, none⟩ = some u := by
    intro W hb j u hj
    obtain ⟨g, o, hA', hg, hcell⟩ := (QQ.below hb) (by simp)
    simp only [Option.some.injEq, Addr.mk.injEq] at hA'
    obtain ⟨rfl, rfl, _⟩ := hA'
    have := hcell j u hj
    rwa [Nat.zero_add] at this
  clear q1 q2 q3 q4 r5 hw5 hA hW0 QQ
  have HCells := Lib.hid cells
  clear cells
  go_loopw [49] (fun s49 wr => ∃ k : Nat, k ≤ 5 ∧ s49 = .int .i64 k ∧ Below W0.heap.size W0 wr) (fun s49 _ => 5 - (intOf s49).toNat)
  case atStart => exact ⟨0, by omega, rfl, Below.refl _ _⟩
  case round =>
    obtain ⟨k, hk, rfl, hb⟩ := hrel
    have cells := HCells.out
    have hk6 : k = 0 ∨ k = 1 ∨ k = 2 ∨ k = 3 ∨ k = 4 ∨ k = 5 := by omega
    rcases hk6 with rfl | rfl | rfl | rfl | rfl | rfl
    · have hcj : wr.cell? ⟨w5.heap.size, 0, none⟩ = some (.slice B1 E1.length k1) := cells wr hb 0 _ rfl
      clear cells
      by_cases hm : E1.length ≤ 500
      · have hmi : min (E1.length : Int) 500 = (E1.length : Int) := by omega
        go_wp2_with fail
        clear hmi hcj
        go_loopw [57] (fun s57 wx => ∃ i : Nat, i ≤ E1.length ∧ s57 = .int .i64 i ∧ Below W0.heap.size W0 wx) (fun s57 _ => E1.length - (intOf s57).toNat)
        case atStart => exact ⟨0, Nat.zero_le _, rfl, hb⟩
        case round =>
          obtain ⟨i, hi, rfl, hbx⟩ := hrel
          by_cases hlt : i < E1.length
          · have hcut := K1.out _ B1 k1 i ((Q1.below hbx).more hbx.size) kc1 (by omega)
            have hsl := slice_to B1 E1.length k1 i (by omega) kc1
            have HC := Lib.hid hcut
            clear hcut
            go_wp2_with fail
            refine HC.out.mono ?_; rintro e wy ⟨v, u, rfl, hby⟩
            have hbn := bt hbx hby
            clear hsl
            go_wp2_with fail
            go_roundw
            case rel => first | exact ⟨i + 1, by omega, by go_num, hbn⟩ | ((repeat apply Exists.intro); exact ⟨⟨i + 1, by omega, by go_num, hbn⟩, rfl⟩)
            case measure => first | (simp only [intOf]; omega) | (simp [intOf]; omega)
          · obtain rfl : i = E1.length := by omega
            go_wp2_with fail
            go_roundw
            case rel => exact ⟨1, by omega, by go_num, hbx⟩
            case measure => simp only [intOf]; omega
      · have hmi : min (E1.length : Int) 500 = 500 := by omega
        go_wp2_with fail
        clear hmi hcj
        go_loopw [57] (fun s57 wx => ∃ i : Nat, i ≤ 500 ∧ s57 = .int .i64 i ∧ Below W0.heap.size W0 wx) (fun s57 _ => 500 - (intOf s57).toNat)
        case atStart => exact ⟨0, Nat.zero_le _, rfl, hb⟩
        case round =>
          obtain ⟨i, hi, rfl, hbx⟩ := hrel
          by_cases hlt : i < 500
          · have hcut := K1.out _ B1 k1 i ((Q1.below hbx).more hbx.size) kc1 (by omega)
            have hsl := slice_to B1 E1.length k1 i (by omega) kc1
            have HC := Lib.hid hcut
            clear hcut
            go_wp2_with fail
            refine HC.out.mono ?_; rintro e wy ⟨v, u, rfl, hby⟩
            have hbn := bt hbx hby
            clear hsl
            go_wp2_with fail
            go_roundw
            case rel => first | exact ⟨i + 1, by omega, by go_num, hbn⟩ | ((repeat apply Exists.intro); exact ⟨⟨i + 1, by omega, by go_num, hbn⟩, rfl⟩)
            case measure => first | (simp only [intOf]; omega) | (simp [intOf]; omega)
          · obtain rfl : i = 500 := by omega
            go_wp2_with fail
            go_roundw
            case rel => exact ⟨1, by omega, by go_num, hbx⟩
            case measure => simp only [intOf]; omega
    · have hcj : wr.cell? ⟨w5.heap.size, 1, none⟩ = some (.slice B2 E2.length k2) := cells wr hb 1 _ rfl
      clear cells
      by_cases hm : E2.length ≤ 500
      · have hmi : min (E2.length : Int) 500 = (E2.length : Int) := by omega
        go_wp2_with fail
        clear hmi hcj
        go_loopw [57] (fun s57 wx => ∃ i : Nat, i ≤ E2.length ∧ s57 = .int .i64 i ∧ Below W0.heap.size W0 wx) (fun s57 _ => E2.length - (intOf s57).toNat)
        case atStart => exact ⟨0, Nat.zero_le _, rfl, hb⟩
        case round =>
          obtain ⟨i, hi, rfl, hbx⟩ := hrel
          by_cases hlt : i < E2.length
          · have hcut := K2.out _ B2 k2 i ((Q2.below hbx).more hbx.size) kc2 (by omega)
            have hsl := slice_to B2 E2.length k2 i (by omega) kc2
            have HC := Lib.hid hcut
            clear hcut
            go_wp2_with fail
            refine HC.out.mono ?_; rintro e wy ⟨v, u, rfl, hby⟩
            have hbn := bt hbx hby
            clear hsl
            go_wp2_with fail
            go_roundw
            case rel => first | exact ⟨i + 1, by omega, by go_num, hbn⟩ | ((repeat apply Exists.intro); exact ⟨⟨i + 1, by omega, by go_num, hbn⟩, rfl⟩)
            case measure => first | (simp only [intOf]; omega) | (simp [intOf]; omega)
          · obtain rfl : i = E2.length := by omega
            go_wp2_with fail
            go_roundw
            case rel => exact ⟨2, by omega, by go_num, hbx⟩
            case measure => simp only [intOf]; omega
      · have hmi : min (E2.length : Int) 500 = 500 := by omega
        go_wp2_with fail
        clear hmi hcj
        go_loopw [57] (fun s57 wx => ∃ i : Nat, i ≤ 500 ∧ s57 = .int .i64 i ∧ Below W0.heap.size W0 wx) (fun s57 _ => 500 - (intOf s57).toNat)
        case atStart => exact ⟨0, Nat.zero_le _, rfl, hb⟩
        case round =>
          obtain ⟨i, hi, rfl, hbx⟩ := hrel
          by_cases hlt : i < 500
          · have hcut := K2.out _ B2 k2 i ((Q2.below hbx).more hbx.size) kc2 (by omega)
            have hsl := slice_to B2 E2.length k2 i (by omega) kc2
            have HC := Lib.hid hcut
            clear hcut
            go_wp2_with fail
            refine HC.out.mono ?_; rintro e wy ⟨v, u, rfl, hby⟩
            have hbn := bt hbx hby
            clear hsl
            go_wp2_with fail
            go_roundw
            case rel => first | exact ⟨i + 1, by omega, by go_num, hbn⟩ | ((repeat apply Exists.intro); exact ⟨⟨i + 1, by omega, by go_num, hbn⟩, rfl⟩)
            case measure => first | (simp only [intOf]; omega) | (simp [intOf]; omega)
          · obtain rfl : i = 500 := by omega
            go_wp2_with fail
            go_roundw
            case rel => exact ⟨2, by omega, by go_num, hbx⟩
            case measure => simp only [intOf]; omega
    · have hcj : wr.cell? ⟨w5.heap.size, 2, none⟩ = some (.slice B3 E3.length k3) := cells wr hb 2 _ rfl
      clear cells
      by_cases hm : E3.length ≤ 500
      · have hmi : min (E3.length : Int) 500 = (E3.length : Int) := by omega
        go_wp2_with fail
        clear hmi hcj
        go_loopw [57] (fun s57 wx => ∃ i : Nat, i ≤ E3.length ∧ s57 = .int .i64 i ∧ Below W0.heap.size W0 wx) (fun s57 _ => E3.length - (intOf s57).toNat)
        case atStart => exact ⟨0, Nat.zero_le _, rfl, hb⟩
        case round =>
          obtain ⟨i, hi, rfl, hbx⟩ := hrel
          by_cases hlt : i < E3.length
          · have hcut := K3.out _ B3 k3 i ((Q3.below hbx).more hbx.size) kc3 (by omega)
            have hsl := slice_to B3 E3.length k3 i (by omega) kc3
            have HC := Lib.hid hcut
            clear hcut
            go_wp2_with fail
            refine HC.out.mono ?_; rintro e wy ⟨v, u, rfl, hby⟩
            have hbn := bt hbx hby
            clear hsl
            go_wp2_with fail
            go_roundw
            case rel => first | exact ⟨i + 1, by omega, by go_num, hbn⟩ | ((repeat apply Exists.intro); exact ⟨⟨i + 1, by omega, by go_num, hbn⟩, rfl⟩)
            case measure => first | (simp only [intOf]; omega) | (simp [intOf]; omega)
          · obtain rfl : i = E3.length := by omega
            go_wp2_with fail
            go_roundw
            case rel => exact ⟨3, by omega, by go_num, hbx⟩
            case measure => simp only [intOf]; omega
      · have hmi : min (E3.length : Int) 500 = 500 := by omega
        go_wp2_with fail
        clear hmi hcj
        go_loopw [57] (fun s57 wx => ∃ i : Nat, i ≤ 500 ∧ s57 = .int .i64 i ∧ Below W0.heap.size W0 wx) (fun s57 _ => 500 - (intOf s57).toNat)
        case atStart => exact ⟨0, Nat.zero_le _, rfl, hb⟩
        case round =>
          obtain ⟨i, hi, rfl, hbx⟩ := hrel
          by_cases hlt : i < 500
          · have hcut := K3.out _ B3 k3 i ((Q3.below hbx).more hbx.size) kc3 (by omega)
            have hsl := slice_to B3 E3.length k3 i (by omega) kc3
            have HC := Lib.hid hcut
            clear hcut
            go_wp2_with fail
            refine HC.out.mono ?_; rintro e wy ⟨v, u, rfl, hby⟩
            have hbn := bt hbx hby
            clear hsl
            go_wp2_with fail
            go_roundw
            case rel => first | exact ⟨i + 1, by omega, by go_num, hbn⟩ | ((repeat apply Exists.intro); exact ⟨⟨i + 1, by omega, by go_num, hbn⟩, rfl⟩)
            case measure => first | (simp only [intOf]; omega) | (simp [intOf]; omega)
          · obtain rfl : i = 500 := by omega
            go_wp2_with fail
            go_roundw
            case rel => exact ⟨3, by omega, by go_num, hbx⟩
            case measure => simp only [intOf]; omega
    · have hcj : wr.cell? ⟨w5.heap.size, 3, none⟩ = some (.slice B4 E4.length k4) := cells wr hb 3 _ rfl
      clear cells
      by_cases hm : E4.length ≤ 500
      · have hmi : min (E4.length : Int) 500 = (E4.length : Int) := by omega
        go_wp2_with fail
        clear hmi hcj
        go_loopw [57] (fun s57 wx => ∃ i : Nat, i ≤ E4.length ∧ s57 = .int .i64 i ∧ Below W0.heap.size W0 wx) (fun s57 _ => E4.length - (intOf s57).toNat)
        case atStart => exact ⟨0, Nat.zero_le _, rfl, hb⟩
        case round =>
          obtain ⟨i, hi, rfl, hbx⟩ := hrel
          by_cases hlt : i < E4.length
          · have hcut := K4.out _ B4 k4 i ((Q4.below hbx).more hbx.size) kc4 (by omega)
            have hsl := slice_to B4 E4.length k4 i (by omega) kc4
            have HC := Lib.hid hcut
            clear hcut
            go_wp2_with fail
            refine HC.out.mono ?_; rintro e wy ⟨v, u, rfl, hby⟩
            have hbn := bt hbx hby
            clear hsl
            go_wp2_with fail
            go_roundw
            case rel => first | exact ⟨i + 1, by omega, by go_num, hbn⟩ | ((repeat apply Exists.intro); exact ⟨⟨i + 1, by omega, by go_num, hbn⟩, rfl⟩)
            case measure => first | (simp only [intOf]; omega) | (simp [intOf]; omega)
          · obtain rfl : i = E4.length := by omega
            go_wp2_with fail
            go_roundw
            case rel => exact ⟨4, by omega, by go_num, hbx⟩
            case measure => simp only [intOf]; omega
      · have hmi : min (E4.length : Int) 500 = 500 := by omega
        go_wp2_with fail
        clear hmi hcj
        go_loopw [57] (fun s57 wx => ∃ i : Nat, i ≤ 500 ∧ s57 = .int .i64 i ∧ Below W0.heap.size W0 wx) (fun s57 _ => 500 - (intOf s57).toNat)
        case atStart => exact ⟨0, Nat.zero_le _, rfl, hb⟩
        case round =>
          obtain ⟨i, hi, rfl, hbx⟩ := hrel
          by_cases hlt : i < 500
          · have hcut := K4.out _ B4 k4 i ((Q4.below hbx).more hbx.size) kc4 (by omega)
            have hsl := slice_to B4 E4.length k4 i (by omega) kc4
            have HC := Lib.hid hcut
            clear hcut
            go_wp2_with fail
            refine HC.out.mono ?_; rintro e wy ⟨v, u, rfl, hby⟩
            have hbn := bt hbx hby
            clear hsl
            go_wp2_with fail
            go_roundw
            case rel => first | exact ⟨i + 1, by omega, by go_num, hbn⟩ | ((repeat apply Exists.intro); exact ⟨⟨i + 1, by omega, by go_num, hbn⟩, rfl⟩)
            case measure => first | (simp only [intOf]; omega) | (simp [intOf]; omega)
          · obtain rfl : i = 500 := by omega
            go_wp2_with fail
            go_roundw
            case rel => exact ⟨4, by omega, by go_num, hbx⟩
            case measure => simp only [intOf]; omega
    · have hcj : wr.cell? ⟨w5.heap.size, 4, none⟩ = some (.slice B5 E5.length k5) := cells wr hb 4 _ rfl
      clear cells
      by_cases hm : E5.length ≤ 500
      · have hmi : min (E5.length : Int) 500 = (E5.length : Int) := by omega
        go_wp2_with fail
        clear hmi hcj
        go_loopw [57] (fun s57 wx => ∃ i : Nat, i ≤ E5.length ∧ s57 = .int .i64 i ∧ Below W0.heap.size W0 wx) (fun s57 _ => E5.length - (intOf s57).toNat)
        case atStart => exact ⟨0, Nat.zero_le _, rfl, hb⟩
        case round =>
          obtain ⟨i, hi, rfl, hbx⟩ := hrel
          by_cases hlt : i < E5.length
          · have hcut := K5.out _ B5 k5 i ((Q5.below hbx).more hbx.size) kc5 (by omega)
            have hsl := slice_to B5 E5.length k5 i (by omega) kc5
            have HC := Lib.hid hcut
            clear hcut
            go_wp2_with fail
            refine HC.out.mono ?_; rintro e wy ⟨v, u, rfl, hby⟩
            have hbn := bt hbx hby
            clear hsl
            go_wp2_with fail
            go_roundw
            case rel => first | exact ⟨i + 1, by omega, by go_num, hbn⟩ | ((repeat apply Exists.intro); exact ⟨⟨i + 1, by omega, by go_num, hbn⟩, rfl⟩)
            case measure => first | (simp only [intOf]; omega) | (simp [intOf]; omega)
          · obtain rfl : i = E5.length := by omega
            go_wp2_with fail
            go_roundw
            case rel => exact ⟨5, by omega, by go_num, hbx⟩
            case measure => simp only [intOf]; omega
      · have hmi : min (E5.length : Int) 500 = 500 := by omega
        go_wp2_with fail
        clear hmi hcj
        go_loopw [57] (fun s57 wx => ∃ i : Nat, i ≤ 500 ∧ s57 = .int .i64 i ∧ Below W0.heap.size W0 wx) (fun s57 _ => 500 - (intOf s57).toNat)
        case atStart => exact ⟨0, Nat.zero_le _, rfl, hb⟩
        case round =>
          obtain ⟨i, hi, rfl, hbx⟩ := hrel
          by_cases hlt : i < 500
          · have hcut := K5.out _ B5 k5 i ((Q5.below hbx).more hbx.size) kc5 (by omega)
            have hsl := slice_to B5 E5.length k5 i (by omega) kc5
            have HC := Lib.hid hcut
            clear hcut
            go_wp2_with fail
            refine HC.out.mono ?_; rintro e wy ⟨v, u, rfl, hby⟩
            have hbn := bt hbx hby
            clear hsl
            go_wp2_with fail
            go_roundw
            case rel => first | exact ⟨i + 1, by omega, by go_num, hbn⟩ | ((repeat apply Exists.intro); exact ⟨⟨i + 1, by omega, by go_num, hbn⟩, rfl⟩)
            case measure => first | (simp only [intOf]; omega) | (simp [intOf]; omega)
          · obtain rfl : i = 500 := by omega
            go_wp2_with fail
            go_roundw
            case rel => exact ⟨5, by omega, by go_num, hbx⟩
            case measure => simp only [intOf]; omega
    · clear cells
      go_wp2_with fail
      refine (sanity_any _).mono ?_; rintro e wz ⟨rfl, hbz⟩
      go_wp2_with fail
      go_ret
      exact ⟨rfl, bt (bt hall hb) hbz⟩
end Go.Proofs.Ytooanlmmplbnoaa
