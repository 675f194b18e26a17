/-
  Texts of the proof, joined: Ps.
  No condition: lemmas.
-/
import Derived.Laws.CopyOwn
import Derived.Test.YtbfhilbagojdnaaGreatHr2
namespace Go.Proofs.YtbfhilbagojdnaaGreat
open Go.RowKit Wr Go.Proofs.YtbfhilbagojdnaaGreat.Nm
set_option linter.unusedVariables false
set_option maxRecDepth 100000

/-- A part of an own row, by its two ends. -/
theorem sl3h (g n c lo hi k : Nat) (h1 : lo + k = hi) (h2 : hi ≤ c) : ∃ Ad : Option Addr, (0 < k → Ad = some ⟨g, lo, none⟩) ∧ ∀ W, (Instr.sliceAt 22 (.slice (some ⟨g, 0, none⟩) n c) (some (.int .i64 (lo : Int))) (some (.int .i64 (hi : Int))) (some (.int .i64 (hi : Int)))).run Tryz.prog W = .ok (.slice Ad k k) W := by
  obtain ⟨Ad, hA, hs⟩ := sl3 g n c lo k (by omega)
  refine ⟨Ad, hA, ?_⟩
  rw [← h1, show ((lo + k : Nat) : Int) = (lo : Int) + (k : Int) by omega]
  exact hs
theorem sl0 (g o n c k : Nat) (h : k ≤ c) (W : World) : (Instr.sliceAt 22 (.slice (some ⟨g, o, none⟩) n c) none (some (.int .i64 (k : Int))) (some (.int .i64 (k : Int)))).run Tryz.prog W = .ok (.slice (some ⟨g, o, none⟩) k k) W := by
  have he : Tryz.prog.elem 22 = 66 := by kernel_rfl
  have hu : Tryz.prog.underlying 22 = some (.slice (Tryz.prog.elem 22)) := by kernel_rfl
  have h5 : (sizeOf 66).run Tryz.prog W = .ok 1 W := by kernel_rfl
  rw [run_sliceAt_slice W 22 _ _ _ _ hu, run_slice_hm W 22 (some ⟨g, o, none⟩) n c hu .i64 .i64 (k : Int) (k : Int) (by omega) (by omega) (by omega), he, h5]
  simp only [Result.andThen, Int.toNat_natCast, sliced, Option.map_some, Nat.zero_mul, Nat.sub_zero, Addr.add_lit, Nat.add_zero]
  by_cases h : k = 0
  · simp [h]
  · simp [h]
theorem addCarry_nil (Ad : Option Addr) (a c : Nat) (w : World) (ha : a < 4294967296) : Calls Tryz.prog 115 #[.slice Ad 0 c, .int .u32 ((a : Nat) : Int)] w fun e w' => e = .returned (.int .u32 ((a : Nat) : Int)) ∧ w = w' := by
  go_enter Tryz.func115, Tryz.ntmps115
  go_wp2
  go_loopw [1, 8] (fun s1 s8 wr => s8 = .int .i64 0 ∧ s1 = .int .u32 ((a : Nat) : Int) ∧ w = wr) (fun _ s8 _ => 0)
  case atStart => exact ⟨rfl, rfl, rfl⟩
  case round =>
    obtain ⟨rfl, rfl, rfl⟩ := hrel
    go_wp2
    go_ret
    exact ⟨rfl, rfl⟩
theorem addCarry_ad (g : Nat) (pre post : List Value) (R : List Nat) (a c : Nat) (Ad : Option Addr) (w : World) (hR : Ok R) (ha : a < 4294967296) (hn : R.length ≤ 1048576)
    (hp : pre.length ≤ 1048576) (hAd : 0 < R.length → Ad = some ⟨g, pre.length, none⟩) (hb : Row w g pre R post) :
    Calls Tryz.prog 115 #[.slice Ad R.length c, .int .u32 ((a : Nat) : Int)] w (AddP w g pre post R (num R + a)) := by
  rcases Nat.eq_zero_or_pos R.length with h0 | h0
  · have e1 := List.length_eq_zero_iff.1 h0
    subst e1
    refine (addCarry_nil Ad a c w ha).mono ?_
    rintro e w' ⟨rfl, rfl⟩
    exact ⟨by simp [num], by simpa [digs, num] using hb, grown_refl _ _⟩
  · rw [hAd h0]
    exact addCarry_any g pre post R a c w hR ha hn hp hb
theorem sizeL : (Tryz.prog.info? 66).map (·.size) = some 1 := by kernel_rfl
theorem splice_zero (la : Nat) (a : List Nat) (h : a.length = la) : splice (Lc (List.replicate (la + 1) 0)) 0 (Lc a) = Lc a ++ [.int .u32 0] := by
  unfold splice
  rw [List.take_zero, List.nil_append, Lc_drop, Lc_len, h, List.drop_replicate, show la + 1 - (0 + la) = 1 by omega]
  rfl
/-- The limbs of a sum, in two parts and what is carried. -/
theorem plus_math (a : List Nat) (Y lb k : Nat) (ha : Ok a) (hl : a.length = lb + k) (hY : Y < 4294967296 ^ lb) :
    (num (a.take lb) + Y) / 4294967296 ^ lb < 4294967296 ∧ (num (a.drop lb) + (num (a.take lb) + Y) / 4294967296 ^ lb) / 4294967296 ^ k < 4294967296 ∧
    digs (lb + k + 1) (num a + Y) = digs lb (num (a.take lb) + Y) ++ (digs k (num (a.drop lb) + (num (a.take lb) + Y) / 4294967296 ^ lb) ++ [(num (a.drop lb) + (num (a.take lb) + Y) / 4294967296 ^ lb) / 4294967296 ^ k]) ∧ num a + Y < 4294967296 ^ (lb + k + 1) := by
  have h1 := num_lt _ (ha.take lb)
  rw [List.length_take, Nat.min_eq_left (by omega)] at h1
  have h2 := num_lt _ (ha.drop lb)
  rw [List.length_drop, show a.length - lb = k by omega] at h2
  have h3 := num_append (a.take lb) (a.drop lb)
  rw [List.take_append_drop, List.length_take, Nat.min_eq_left (by omega)] at h3
  have h4 := num_lt a ha
  rw [hl] at h4
  have pk := pow_pos k
  have pl := pow_pos lb
  have q1 : (num (a.take lb) + Y) / 4294967296 ^ lb < 2 := by rw [Nat.div_lt_iff_lt_mul pl]; omega
  have q2 : (num (a.drop lb) + (num (a.take lb) + Y) / 4294967296 ^ lb) / 4294967296 ^ k < 2 := by rw [Nat.div_lt_iff_lt_mul pk]; omega
  refine ⟨by omega, by omega, ?_, ?_⟩
  · have e : num a + Y = num (a.take lb) + Y + 4294967296 ^ lb * num (a.drop lb) := by omega
    rw [Nat.add_assoc lb k 1, digs_append lb (k + 1), e, digs_add, Nat.add_mul_div_left _ _ pl, Nat.add_comm (_ / _) (num _), digs_snoc k, Nat.mod_eq_of_lt (show _ < 4294967296 by omega)]
  · have e1 : 4294967296 ^ lb ≤ 4294967296 ^ (lb + k) := Nat.pow_le_pow_right (by omega) (by omega)
    rw [Nat.pow_succ]; omega
theorem plus_put {w : World} {g k lb : Nat} {T1 T2 : Nat} (h : Row w g (Lc (digs lb T1)) (digs k T2) [.int .u32 0]) (q : Nat) :
    w.cell? ⟨g, lb + k, none⟩ = some (.int .u32 0) ∧ w.frozen? ⟨g, lb + k, none⟩ = false ∧ Blk (w.setCell ⟨g, lb + k, none⟩ (.int .u32 ((q : Nat) : Int))) g 66 (Lc (digs lb T1 ++ (digs k T2 ++ [q]))) := by
  unfold Row at h
  have e : Lc (digs lb T1) ++ (Lc (digs k T2) ++ [.int .u32 0]) = Lc (digs lb T1 ++ (digs k T2 ++ [0])) := by simp [Lc]
  rw [e] at h
  have hlen : (digs lb T1 ++ digs k T2).length = lb + k := by rw [List.length_append, digs_len, digs_len]
  refine ⟨?_, h.frozen _, ?_⟩
  · rw [h.cell, ← List.append_assoc, Lc_get _ _ (by rw [List.length_append, hlen]; simp), List.getElem_append_right (by omega)]; simp
  · have := h.put (lb + k) (.int .u32 ((q : Nat) : Int))
    rw [Lc_set, ← List.append_assoc, List.set_append_right _ _ (by omega), hlen, Nat.sub_self, List.set_cons_zero, List.append_assoc] at this
    exact this
set_option maxHeartbeats 2000000 in
theorem plus_ge (A A2 : Option Addr) (a b : List Nat) (c c2 : Nat) (w : World) (ha : Ok a) (hb : Ok b) (hr : Rd w w.heap.size A (Lc a)) (hr2 : Rd w w.heap.size A2 (Lc b)) (hl : a.length ≤ 100000) (hl2 : b.length ≤ 100000) (hlen : b.length ≤ a.length) :
    Calls Tryz.prog 72 #[.slice A a.length c, .slice A2 b.length c2] w (SlP w (num a + num b)) := by
  obtain ⟨la, hla⟩ : ∃ n, n = a.length := ⟨_, rfl⟩
  obtain ⟨lb, hlb⟩ : ∃ n, n = b.length := ⟨_, rfl⟩
  obtain ⟨k, hk⟩ : ∃ k, la = lb + k := ⟨la - lb, by omega⟩
  obtain ⟨Y, hY⟩ : ∃ y, y = num b := ⟨_, rfl⟩
  have hY0 : Y < 4294967296 ^ lb := by rw [hY, hlb]; exact num_lt b hb
  obtain ⟨m1, m2, m3, m4⟩ := plus_math a Y lb k ha (by omega) hY0
  have hd : decide (a.length < b.length) = false := by simp; omega
  have hsum : num a + num b = num a + Y := by omega
  rw [hsum]
  rw [← hla, ← hlb] at hd ⊢
  have hle0 : lb ≤ la := by omega
  have hl3 : la ≤ 100000 := by omega
  have hl4 : lb ≤ 100000 := by omega
  obtain ⟨T1, hT1⟩ : ∃ T, T = num (a.take lb) + Y := ⟨_, rfl⟩
  rw [← hT1] at m1 m2 m3
  obtain ⟨c1, hc1⟩ : ∃ q, q = T1 / 4294967296 ^ lb := ⟨_, rfl⟩
  rw [← hc1] at m1 m2 m3
  obtain ⟨T2, hT2⟩ : ∃ T, T = num (a.drop lb) + c1 := ⟨_, rfl⟩
  rw [← hT2] at m2 m3
  obtain ⟨q2, hq2⟩ : ∃ q, q = T2 / 4294967296 ^ k := ⟨_, rfl⟩
  rw [← hq2] at m2 m3
  have hmk := mk22 (la + 1) (by omega)
  rw [show ((la + 1 : Nat) : Int) = (la : Int) + 1 by omega] at hmk
  have hsp := splice_zero la a hla.symm
  have HLA := Lib.hid hla; have HLB := Lib.hid hlb; have HK := Lib.hid hk
  have HS := Lib.hid hsp
  have M3 := Lib.hid m3; have M4 := Lib.hid m4
  have T1h := Lib.hid hT1; have T2h := Lib.hid hT2; have C1h := Lib.hid hc1; have Q2h := Lib.hid hq2; have HYh := Lib.hid hY
  have hblk0 := Blk.new w 66 (Lc (List.replicate (la + 1) 0))
  have hbel0 : Below w.heap.size w (w.alloc (.cells (Lc (List.replicate (la + 1) 0)).toArray 66)) := (Below.refl _ _).alloc (Nat.le_refl _) _
  obtain ⟨W0, hW0⟩ : ∃ W0, W0 = w.alloc (.cells (Lc (List.replicate (la + 1) 0)).toArray 66) := ⟨_, rfl⟩
  rw [← hW0] at hblk0 hbel0
  have hmk2 := hmk w
  rw [← hW0] at hmk2
  have HB0 := Lib.hid (show W0.heap[w.heap.size]? = some (.cells (Lc (List.replicate (la + 1) 0)).toArray 66 (0, 0)) from hblk0); have HE0 := Lib.hid hbel0
  have hra := hr.below hbel0
  have hpos : 0 < (Lc a).length → ∃ ad, A = some ad ∧ ∀ j v, (Lc a)[j]? = some v → W0.cell? (ad.add j) = some v := by
    intro h
    obtain ⟨g, o, e, _, hc⟩ := Rd.cells hra h
    exact ⟨_, e, fun j v hv => by rw [Addr.add_lit]; exact hc j v hv⟩
  have HPOS := Lib.hid hpos
  have hlnn : (Lc a).length = Nat.min la (la + 1) := by rw [Lc_len, ← hla]; exact (Nat.min_eq_left (by omega)).symm
  have HLN := Lib.hid hlnn
  have hfit : 0 + (Lc a).length ≤ (Lc (List.replicate (la + 1) 0)).length := by rw [Lc_len, Lc_len, List.length_replicate]; omega
  have HF := Lib.hid hfit
  clear hmk hla hlb hk m3 m4 hsp hT1 hT2 hc1 hq2 hY hsum hW0 hblk0 hbel0 hra hpos hlnn hfit hY0 hlen
  have hsl0 := sl0 w.heap.size 0 (la + 1) (la + 1) lb (by omega)
  go_enter Tryz.func72, Tryz.ntmps72
  go_wp2_with (with_reducible refine wpList_copy_splice rfl (.tmp 23) (.tmp 24) 22 22 rfl 66 Tryz.underlying22 sizeL (some ⟨w.heap.size, 0, none⟩) A (la + 1) (la + 1) la c rfl rfl w.heap.size 0 _ 66 HB0.out (Lc a) HLN.out (fun h => ⟨rfl, HPOS.out h⟩) HF.out (Lc_one a) w.heap.size w HE0.out (Nat.le_refl _) ?_)
  intro W1 HB1 hbel1
  rw [HS.out] at HB1
  have hrow1 : Row W1 w.heap.size [] (a.take lb) (Lc (a.drop lb) ++ [.int .u32 0]) := by
    have h := HB1.out
    unfold Row
    rw [List.nil_append, ← List.append_assoc, ← Lc_append, List.take_append_drop]
    exact h
  have hrb1 := hr2.below hbel1
  have htk : (a.take lb).length = lb := by rw [List.length_take, ← HLA.out, HK.out]; exact Nat.min_eq_left (by omega)
  have hAT := fun W (h : W1 = W) => addTimes_ad w.heap.size [] (Lc (a.drop lb) ++ [.int .u32 0]) (a.take lb) b 1 lb c2 (some ⟨w.heap.size, 0, none⟩) A2 W (ha.take lb) hb (by omega) (by rw [htk, ← HLB.out]) (by omega) (by simp) (fun _ => rfl) (by rw [← h]; exact hrow1) (by rw [← h]; exact hrb1)
  rw [htk, ← HLB.out, Nat.one_mul, ← HYh.out, ← T1h.out] at hAT
  rw [show ((1 : Nat) : Int) = 1 from rfl] at hAT
  have HAT := Lib.hid hAT
  have HBel1 := Lib.hid hbel1
  have HLT1 := Lib.hid (Blk.lt hrow1)
  have HTK := Lib.hid htk
  clear hAT hrow1 hrb1 htk hbel1 hmk2 HB1 HB0 HE0 HPOS HLN HF
  go_wp2_with fail
  refine (HAT.out _ rfl).mono ?_
  rintro e W2 ⟨rfl, hrow2, hg2⟩
  rw [HTK.out, ← C1h.out]
  rw [HTK.out] at hrow2
  have hbel2 := HBel1.out.grown hg2 (Nat.le_of_lt HLT1.out) (by intro q e; injection e with e; omega)
  obtain ⟨Ad, hAd, hsl⟩ := sl3h w.heap.size (la + 1) (la + 1) lb la k HK.out.symm (by omega)
  have hdk : (a.drop lb).length = k := by rw [List.length_drop, ← HLA.out, HK.out]; omega
  have hrow2' : Row W2 w.heap.size (Lc (digs lb T1)) (a.drop lb) [.int .u32 0] := by
    unfold Row at hrow2 ⊢
    rw [List.nil_append] at hrow2
    exact hrow2
  have hAC := fun W (h : W2 = W) => addCarry_ad w.heap.size (Lc (digs lb T1)) [.int .u32 0] (a.drop lb) c1 k Ad W (ha.drop lb) m1 (by rw [hdk]; have := HK.out; omega) (by rw [Lc_len, digs_len]; omega) (by rw [hdk, Lc_len, digs_len]; exact hAd) (by rw [← h]; exact hrow2')
  rw [hdk, ← T2h.out] at hAC
  have HAC := Lib.hid hAC
  have HBel2 := Lib.hid hbel2
  have HLT2 := Lib.hid (Blk.lt hrow2')
  have HDK := Lib.hid hdk
  have hlba : (lb : Int) ≤ (la : Int) := by have := HK.out; omega
  clear hAC hrow2 hrow2' hdk hbel2 HAT HBel1 HLT1 hAd hg2
  go_wp2_with fail
  refine (HAC.out _ rfl).mono ?_
  rintro e W3 ⟨rfl, hrow3, hg3⟩
  rw [HDK.out, ← Q2h.out]
  rw [HDK.out] at hrow3
  obtain ⟨hc3, hf3, hput⟩ := plus_put hrow3 q2
  have hbel3 := HBel2.out.grown hg3 (Nat.le_of_lt HLT2.out) (by intro q e; injection e with e; omega)
  have HB3 := Lib.hid (hbel3.setCell (p := ⟨w.heap.size, lb + k, none⟩) (Nat.le_refl _) (.int .u32 ((q2 : Nat) : Int)))
  rw [← M3.out] at hput
  have hdz := dropz_digs (lb + k + 1) (num a + Y) M4.out
  have hlen := digs_len (lb + k + 1) (num a + Y)
  have HSL := Lib.hid (proper_sl hput hdz)
  have HRD := Lib.hid (Rd.of_blk0 hput)
  rw [← HK.out] at hc3 hf3
  generalize digs (lb + k + 1) (num a + Y) = D at *
  have hpr := fun W (h : W3.setCell ⟨w.heap.size, lb + k, none⟩ (.int .u32 ((q2 : Nat) : Int)) = W) => proper_any (some ⟨w.heap.size, 0, none⟩) (la + 1) D (w.heap.size + 1) W (by rw [← h]; exact HRD.out) (by rw [hlen, ← HK.out]; omega) (by rw [hlen, ← HK.out]; exact Nat.le_refl _)
  rw [hlen, ← HK.out] at hpr
  have HPR := Lib.hid hpr
  clear hpr hlen hdz hput hrow3 hg3 hbel3 hsl HAC
  go_wp2_with (go_at_call 97; (with_reducible refine (HPR.out _ rfl).mono ?_); rintro e w' ⟨rfl, rfl⟩)
  go_ret
  refine ⟨.slice (some ⟨w.heap.size, 0, none⟩) (dropz D).length (dropz D).length, rfl, ?_, ?_⟩
  · rw [HK.out]; exact HSL.out
  · rw [HK.out]; exact HB3.out
set_option maxHeartbeats 2000000 in
theorem plus_lt (A A2 : Option Addr) (a b : List Nat) (c c2 : Nat) (w : World) (ha : Ok a) (hb : Ok b) (hr : Rd w w.heap.size A (Lc a)) (hr2 : Rd w w.heap.size A2 (Lc b)) (hl : a.length ≤ 100000) (hl2 : b.length ≤ 100000) (hlen : a.length < b.length) :
    Calls Tryz.prog 72 #[.slice A a.length c, .slice A2 b.length c2] w (SlP w (num a + num b)) := by
  obtain ⟨la, hla⟩ : ∃ n, n = b.length := ⟨_, rfl⟩
  obtain ⟨lb, hlb⟩ : ∃ n, n = a.length := ⟨_, rfl⟩
  obtain ⟨k, hk⟩ : ∃ k, la = lb + k := ⟨la - lb, by omega⟩
  obtain ⟨Y, hY⟩ : ∃ y, y = num a := ⟨_, rfl⟩
  have hY0 : Y < 4294967296 ^ lb := by rw [hY, hlb]; exact num_lt a ha
  obtain ⟨m1, m2, m3, m4⟩ := plus_math b Y lb k hb (by omega) hY0
  have hd : decide (a.length < b.length) = true := by simp; omega
  have hsum : num a + num b = num b + Y := by omega
  rw [hsum]
  rw [← hla, ← hlb] at hd ⊢
  have hle0 : lb ≤ la := by omega
  have hl3 : la ≤ 100000 := by omega
  have hl4 : lb ≤ 100000 := by omega
  obtain ⟨T1, hT1⟩ : ∃ T, T = num (b.take lb) + Y := ⟨_, rfl⟩
  rw [← hT1] at m1 m2 m3
  obtain ⟨c1, hc1⟩ : ∃ q, q = T1 / 4294967296 ^ lb := ⟨_, rfl⟩
  rw [← hc1] at m1 m2 m3
  obtain ⟨T2, hT2⟩ : ∃ T, T = num (b.drop lb) + c1 := ⟨_, rfl⟩
  rw [← hT2] at m2 m3
  obtain ⟨q2, hq2⟩ : ∃ q, q = T2 / 4294967296 ^ k := ⟨_, rfl⟩
  rw [← hq2] at m2 m3
  have hmk := mk22 (la + 1) (by omega)
  rw [show ((la + 1 : Nat) : Int) = (la : Int) + 1 by omega] at hmk
  have hsp := splice_zero la b hla.symm
  have HLA := Lib.hid hla; have HLB := Lib.hid hlb; have HK := Lib.hid hk
  have HS := Lib.hid hsp
  have M3 := Lib.hid m3; have M4 := Lib.hid m4
  have T1h := Lib.hid hT1; have T2h := Lib.hid hT2; have C1h := Lib.hid hc1; have Q2h := Lib.hid hq2; have HYh := Lib.hid hY
  have hblk0 := Blk.new w 66 (Lc (List.replicate (la + 1) 0))
  have hbel0 : Below w.heap.size w (w.alloc (.cells (Lc (List.replicate (la + 1) 0)).toArray 66)) := (Below.refl _ _).alloc (Nat.le_refl _) _
  obtain ⟨W0, hW0⟩ : ∃ W0, W0 = w.alloc (.cells (Lc (List.replicate (la + 1) 0)).toArray 66) := ⟨_, rfl⟩
  rw [← hW0] at hblk0 hbel0
  have hmk2 := hmk w
  rw [← hW0] at hmk2
  have HB0 := Lib.hid (show W0.heap[w.heap.size]? = some (.cells (Lc (List.replicate (la + 1) 0)).toArray 66 (0, 0)) from hblk0); have HE0 := Lib.hid hbel0
  have hra := hr2.below hbel0
  have hpos : 0 < (Lc b).length → ∃ ad, A2 = some ad ∧ ∀ j v, (Lc b)[j]? = some v → W0.cell? (ad.add j) = some v := by
    intro h
    obtain ⟨g, o, e, _, hc⟩ := Rd.cells hra h
    exact ⟨_, e, fun j v hv => by rw [Addr.add_lit]; exact hc j v hv⟩
  have HPOS := Lib.hid hpos
  have hlnn : (Lc b).length = Nat.min la (la + 1) := by rw [Lc_len, ← hla]; exact (Nat.min_eq_left (by omega)).symm
  have HLN := Lib.hid hlnn
  have hfit : 0 + (Lc b).length ≤ (Lc (List.replicate (la + 1) 0)).length := by rw [Lc_len, Lc_len, List.length_replicate]; omega
  have HF := Lib.hid hfit
  clear hmk hla hlb hk m3 m4 hsp hT1 hT2 hc1 hq2 hY hsum hW0 hblk0 hbel0 hra hpos hlnn hfit hY0 hlen
  have hsl0 := sl0 w.heap.size 0 (la + 1) (la + 1) lb (by omega)
  go_enter Tryz.func72, Tryz.ntmps72
  go_wp2_with (with_reducible refine wpList_copy_splice rfl (.tmp 23) (.tmp 24) 22 22 rfl 66 Tryz.underlying22 sizeL (some ⟨w.heap.size, 0, none⟩) A2 (la + 1) (la + 1) la c2 rfl rfl w.heap.size 0 _ 66 HB0.out (Lc b) HLN.out (fun h => ⟨rfl, HPOS.out h⟩) HF.out (Lc_one b) w.heap.size w HE0.out (Nat.le_refl _) ?_)
  intro W1 HB1 hbel1
  rw [HS.out] at HB1
  have hrow1 : Row W1 w.heap.size [] (b.take lb) (Lc (b.drop lb) ++ [.int .u32 0]) := by
    have h := HB1.out
    unfold Row
    rw [List.nil_append, ← List.append_assoc, ← Lc_append, List.take_append_drop]
    exact h
  have hrb1 := hr.below hbel1
  have htk : (b.take lb).length = lb := by rw [List.length_take, ← HLA.out, HK.out]; exact Nat.min_eq_left (by omega)
  have hAT := fun W (h : W1 = W) => addTimes_ad w.heap.size [] (Lc (b.drop lb) ++ [.int .u32 0]) (b.take lb) a 1 lb c (some ⟨w.heap.size, 0, none⟩) A W (hb.take lb) ha (by omega) (by rw [htk, ← HLB.out]) (by omega) (by simp) (fun _ => rfl) (by rw [← h]; exact hrow1) (by rw [← h]; exact hrb1)
  rw [htk, ← HLB.out, Nat.one_mul, ← HYh.out, ← T1h.out] at hAT
  rw [show ((1 : Nat) : Int) = 1 from rfl] at hAT
  have HAT := Lib.hid hAT
  have HBel1 := Lib.hid hbel1
  have HLT1 := Lib.hid (Blk.lt hrow1)
  have HTK := Lib.hid htk
  clear hAT hrow1 hrb1 htk hbel1 hmk2 HB1 HB0 HE0 HPOS HLN HF
  go_wp2_with fail
  refine (HAT.out _ rfl).mono ?_
  rintro e W2 ⟨rfl, hrow2, hg2⟩
  rw [HTK.out, ← C1h.out]
  rw [HTK.out] at hrow2
  have hbel2 := HBel1.out.grown hg2 (Nat.le_of_lt HLT1.out) (by intro q e; injection e with e; omega)
  obtain ⟨Ad, hAd, hsl⟩ := sl3h w.heap.size (la + 1) (la + 1) lb la k HK.out.symm (by omega)
  have hdk : (b.drop lb).length = k := by rw [List.length_drop, ← HLA.out, HK.out]; omega
  have hrow2' : Row W2 w.heap.size (Lc (digs lb T1)) (b.drop lb) [.int .u32 0] := by
    unfold Row at hrow2 ⊢
    rw [List.nil_append] at hrow2
    exact hrow2
  have hAC := fun W (h : W2 = W) => addCarry_ad w.heap.size (Lc (digs lb T1)) [.int .u32 0] (b.drop lb) c1 k Ad W (hb.drop lb) m1 (by rw [hdk]; have := HK.out; omega) (by rw [Lc_len, digs_len]; omega) (by rw [hdk, Lc_len, digs_len]; exact hAd) (by rw [← h]; exact hrow2')
  rw [hdk, ← T2h.out] at hAC
  have HAC := Lib.hid hAC
  have HBel2 := Lib.hid hbel2
  have HLT2 := Lib.hid (Blk.lt hrow2')
  have HDK := Lib.hid hdk
  have hlba : (lb : Int) ≤ (la : Int) := by have := HK.out; omega
  clear hAC hrow2 hrow2' hdk hbel2 HAT HBel1 HLT1 hAd hg2
  go_wp2_with fail
  refine (HAC.out _ rfl).mono ?_
  rintro e W3 ⟨rfl, hrow3, hg3⟩
  rw [HDK.out, ← Q2h.out]
  rw [HDK.out] at hrow3
  obtain ⟨hc3, hf3, hput⟩ := plus_put hrow3 q2
  have hbel3 := HBel2.out.grown hg3 (Nat.le_of_lt HLT2.out) (by intro q e; injection e with e; omega)
  have HB3 := Lib.hid (hbel3.setCell (p := ⟨w.heap.size, lb + k, none⟩) (Nat.le_refl _) (.int .u32 ((q2 : Nat) : Int)))
  rw [← M3.out] at hput
  have hdz := dropz_digs (lb + k + 1) (num b + Y) M4.out
  have hlen := digs_len (lb + k + 1) (num b + Y)
  have HSL := Lib.hid (proper_sl hput hdz)
  have HRD := Lib.hid (Rd.of_blk0 hput)
  rw [← HK.out] at hc3 hf3
  generalize digs (lb + k + 1) (num b + Y) = D at *
  have hpr := fun W (h : W3.setCell ⟨w.heap.size, lb + k, none⟩ (.int .u32 ((q2 : Nat) : Int)) = W) => proper_any (some ⟨w.heap.size, 0, none⟩) (la + 1) D (w.heap.size + 1) W (by rw [← h]; exact HRD.out) (by rw [hlen, ← HK.out]; omega) (by rw [hlen, ← HK.out]; exact Nat.le_refl _)
  rw [hlen, ← HK.out] at hpr
  have HPR := Lib.hid hpr
  clear hpr hlen hdz hput hrow3 hg3 hbel3 hsl HAC
  go_wp2_with (go_at_call 97; (with_reducible refine (HPR.out _ rfl).mono ?_); rintro e w' ⟨rfl, rfl⟩)
  go_ret
  refine ⟨.slice (some ⟨w.heap.size, 0, none⟩) (dropz D).length (dropz D).length, rfl, ?_, ?_⟩
  · rw [HK.out]; exact HSL.out
  · rw [HK.out]; exact HB3.out
theorem plus_any (A A2 : Option Addr) (a b : List Nat) (c c2 : Nat) (w : World) (ha : Ok a) (hb : Ok b) (hr : Rd w w.heap.size A (Lc a)) (hr2 : Rd w w.heap.size A2 (Lc b)) (hl : a.length ≤ 100000) (hl2 : b.length ≤ 100000) :
    Calls Tryz.prog 72 #[.slice A a.length c, .slice A2 b.length c2] w (SlP w (num a + num b)) := by
  rcases Nat.lt_or_ge a.length b.length with h | h
  · exact plus_lt A A2 a b c c2 w ha hb hr hr2 hl hl2 h
  · exact plus_ge A A2 a b c c2 w ha hb hr hr2 hl hl2 h
end Go.Proofs.YtbfhilbagojdnaaGreat
