/-
  The contracts of expression, sum, product and factor, given those that they call.
  No condition but the lengths.
-/
import Derived.Test.YtpbhgebblpdmnaaDoorZ
import Derived.Test.YtpbhgebblpdmnaaDoorOx
namespace Go.Proofs.YtpbhgebblpdmnaaDoor
open Go.RowKit Wr Src
set_option linter.unusedVariables false
set_option maxRecDepth 100000
section
variable {B : Nat} {w : World} {g : Nat} {T : Str} {E : Nat} {s : St}
set_option maxHeartbeats 4000000 in
theorem expression_walk (h : RS B w g T E s)
  (HC : Hid (∀ W s1, RS B W g T E s1 → mu s1 ≤ mu s → Calls Tryd.prog 72 #[pt g] W (RdOut B W g T E (fun n s' => Ev (fun k => ops k 2 s1) (n, s') ∧ mu s' ≤ mu s1)))) :
  Calls Tryd.prog 62 #[pt g] w (RdOut B w g T E (fun n s' => Ev (fun k => ops k 1 s) (n, s') ∧ mu s' ≤ mu s)) := by
 have z1 := zero25
 obtain ⟨wb, hwb⟩ : ∃ wb, wb = w.heap.size := ⟨_, rfl⟩
 have HWB := Lh hwb
 have HWb := Lh hwb.symm
 have hG' : Hid (g < wb) := Lh (by rw [hwb]; exact h.lt)
 obtain ⟨w0, hw0⟩ : ∃ w0, w0 = w.alloc (.cells #[.int .i64 0, .string ⟨#[]⟩, .int .i64 0, .slice none 0 0] 25) := ⟨_, rfl⟩
 have l0 : Below w.heap.size w w0 := by rw [hw0]; exact (Below.refl _ _).alloc (Nat.le_refl _) _
 have Z0 := Lh (show Blk w0 wb 25 [.int .i64 0, .string ⟨#[]⟩, .int .i64 0, .slice none 0 0] by rw [hw0, hwb]; exact Blk.new w _ _)
 have L0 := Lh l0
 have S0 := Lh (show w0.heap.size = wb + 1 by rw [hw0, hwb]; simp)
 have R0 := Lh (h.below l0)
 have W0 := Lh hw0
 have HO := Lh (operations_walk R0.out 1 (by decide) 72 (Proofs.enters_of Tryd.func72 (by kernel_rfl) rfl) HC)
 have hmf : ∀ (fn : Fn) (first cap : Array Value) (w : World), (Instr.makeFunc fn first cap).run Tryd.prog w = .ok (.func fn first cap) w := fun _ _ _ _ => rfl
 clear h hwb hw0 l0
 go_enter Tryd.func62, Tryd.ntmps62
 go_upto_region 1 with fail
 rw [← W0.out, HWb.out]
 have K0 := Lh (Kp.of_below' (Z := fun k => k = g) L0.out)
 go_wp2_with fail
 refine HO.out.mono ?_
 rintro e w5 ⟨n5, s5, cs5, rfl, ⟨f1, f2⟩, h5, hv5, k5⟩
 obtain ⟨nk, nt, nz, nl⟩ := n5
 obtain ⟨A1, c1, ys1, hcs, _⟩ := hv5.form
 subst hcs
 have Z5 := Lh (k5.blk Z0.out (by have := hG'.out; omega))
 have V5 := Lh hv5; have R5 := Lh h5; have K5 := Lh (K0.out.trans k5 (fun _ _ h => h))
 have F5 := Lh (And.intro f1 f2)
 clear f1 f2 h5 hv5 k5
 dsimp only [NC]
 go_wp2_with (first | (with_reducible refine wpList_store_blk rfl 25 4 size25 (.tmp 2) (.tmp 6) rfl wb [iv nk, sv nt, iv nz, .slice A1 nl.length c1] rfl rfl _ Z5.out rfl rfl rfl ?_; intro w8 hb8 hk8))
 refine bodyPost_ret (v := .agg (NC nk nt nz (.slice A1 nl.length c1)).toArray) (box_res 4 size25 rfl _ _ wb _ _ rfl hb8 rfl Tryd.underlying25 rfl) rfl ⟨_, s5, _, rfl, F5.out, R5.out.kp hk8 (by have := hG'.out; omega) (fun k hk => by have := R5.out.hg; have := hG'.out; omega), ?_, K5.out.trans hk8 (fun k hk e => by have := HWB.out; omega)⟩
 have hn := hk8.nv V5.out (fun k hk _ e => by have h1 := S0.out; omega)
 exact NV.keep (fun k h1 h2 => ⟨rfl, by have h3 := HWB.out; have h4 := S0.out; omega⟩) _ _ hn
set_option maxHeartbeats 4000000 in
theorem sum_walk (h : RS B w g T E s)
  (HC : Hid (∀ W s1, RS B W g T E s1 → mu s1 ≤ mu s → Calls Tryd.prog 77 #[pt g] W (RdOut B W g T E (fun n s' => Ev (fun k => ops k 3 s1) (n, s') ∧ mu s' ≤ mu s1)))) :
  Calls Tryd.prog 72 #[pt g] w (RdOut B w g T E (fun n s' => Ev (fun k => ops k 2 s) (n, s') ∧ mu s' ≤ mu s)) := by
 have z1 := zero25
 obtain ⟨wb, hwb⟩ : ∃ wb, wb = w.heap.size := ⟨_, rfl⟩
 have HWB := Lh hwb
 have HWb := Lh hwb.symm
 have hG' : Hid (g < wb) := Lh (by rw [hwb]; exact h.lt)
 obtain ⟨w0, hw0⟩ : ∃ w0, w0 = w.alloc (.cells #[.int .i64 0, .string ⟨#[]⟩, .int .i64 0, .slice none 0 0] 25) := ⟨_, rfl⟩
 have l0 : Below w.heap.size w w0 := by rw [hw0]; exact (Below.refl _ _).alloc (Nat.le_refl _) _
 have Z0 := Lh (show Blk w0 wb 25 [.int .i64 0, .string ⟨#[]⟩, .int .i64 0, .slice none 0 0] by rw [hw0, hwb]; exact Blk.new w _ _)
 have L0 := Lh l0
 have S0 := Lh (show w0.heap.size = wb + 1 by rw [hw0, hwb]; simp)
 have R0 := Lh (h.below l0)
 have W0 := Lh hw0
 have HO := Lh (operations_walk R0.out 2 (by decide) 77 (Proofs.enters_of Tryd.func77 (by kernel_rfl) rfl) HC)
 have hmf : ∀ (fn : Fn) (first cap : Array Value) (w : World), (Instr.makeFunc fn first cap).run Tryd.prog w = .ok (.func fn first cap) w := fun _ _ _ _ => rfl
 clear h hwb hw0 l0
 go_enter Tryd.func72, Tryd.ntmps72
 go_upto_region 1 with fail
 rw [← W0.out, HWb.out]
 have K0 := Lh (Kp.of_below' (Z := fun k => k = g) L0.out)
 go_wp2_with fail
 refine HO.out.mono ?_
 rintro e w5 ⟨n5, s5, cs5, rfl, ⟨f1, f2⟩, h5, hv5, k5⟩
 obtain ⟨nk, nt, nz, nl⟩ := n5
 obtain ⟨A1, c1, ys1, hcs, _⟩ := hv5.form
 subst hcs
 have Z5 := Lh (k5.blk Z0.out (by have := hG'.out; omega))
 have V5 := Lh hv5; have R5 := Lh h5; have K5 := Lh (K0.out.trans k5 (fun _ _ h => h))
 have F5 := Lh (And.intro f1 f2)
 clear f1 f2 h5 hv5 k5
 dsimp only [NC]
 go_wp2_with (first | (with_reducible refine wpList_store_blk rfl 25 4 size25 (.tmp 2) (.tmp 6) rfl wb [iv nk, sv nt, iv nz, .slice A1 nl.length c1] rfl rfl _ Z5.out rfl rfl rfl ?_; intro w8 hb8 hk8))
 refine bodyPost_ret (v := .agg (NC nk nt nz (.slice A1 nl.length c1)).toArray) (box_res 4 size25 rfl _ _ wb _ _ rfl hb8 rfl Tryd.underlying25 rfl) rfl ⟨_, s5, _, rfl, F5.out, R5.out.kp hk8 (by have := hG'.out; omega) (fun k hk => by have := R5.out.hg; have := hG'.out; omega), ?_, K5.out.trans hk8 (fun k hk e => by have := HWB.out; omega)⟩
 have hn := hk8.nv V5.out (fun k hk _ e => by have h1 := S0.out; omega)
 exact NV.keep (fun k h1 h2 => ⟨rfl, by have h3 := HWB.out; have h4 := S0.out; omega⟩) _ _ hn
set_option maxHeartbeats 4000000 in
theorem product_walk (h : RS B w g T E s)
  (HC : Hid (∀ W s1, RS B W g T E s1 → mu s1 ≤ mu s → Calls Tryd.prog 84 #[pt g] W (RdOut B W g T E (fun n s' => Ev (fun k => ops k 4 s1) (n, s') ∧ mu s' ≤ mu s1)))) :
  Calls Tryd.prog 77 #[pt g] w (RdOut B w g T E (fun n s' => Ev (fun k => ops k 3 s) (n, s') ∧ mu s' ≤ mu s)) := by
 have z1 := zero25
 obtain ⟨wb, hwb⟩ : ∃ wb, wb = w.heap.size := ⟨_, rfl⟩
 have HWB := Lh hwb
 have HWb := Lh hwb.symm
 have hG' : Hid (g < wb) := Lh (by rw [hwb]; exact h.lt)
 obtain ⟨w0, hw0⟩ : ∃ w0, w0 = w.alloc (.cells #[.int .i64 0, .string ⟨#[]⟩, .int .i64 0, .slice none 0 0] 25) := ⟨_, rfl⟩
 have l0 : Below w.heap.size w w0 := by rw [hw0]; exact (Below.refl _ _).alloc (Nat.le_refl _) _
 have Z0 := Lh (show Blk w0 wb 25 [.int .i64 0, .string ⟨#[]⟩, .int .i64 0, .slice none 0 0] by rw [hw0, hwb]; exact Blk.new w _ _)
 have L0 := Lh l0
 have S0 := Lh (show w0.heap.size = wb + 1 by rw [hw0, hwb]; simp)
 have R0 := Lh (h.below l0)
 have W0 := Lh hw0
 have HO := Lh (operations_walk R0.out 3 (by decide) 84 (Proofs.enters_of Tryd.func84 (by kernel_rfl) rfl) HC)
 have hmf : ∀ (fn : Fn) (first cap : Array Value) (w : World), (Instr.makeFunc fn first cap).run Tryd.prog w = .ok (.func fn first cap) w := fun _ _ _ _ => rfl
 clear h hwb hw0 l0
 go_enter Tryd.func77, Tryd.ntmps77
 go_upto_region 1 with fail
 rw [← W0.out, HWb.out]
 have K0 := Lh (Kp.of_below' (Z := fun k => k = g) L0.out)
 go_wp2_with fail
 refine HO.out.mono ?_
 rintro e w5 ⟨n5, s5, cs5, rfl, ⟨f1, f2⟩, h5, hv5, k5⟩
 obtain ⟨nk, nt, nz, nl⟩ := n5
 obtain ⟨A1, c1, ys1, hcs, _⟩ := hv5.form
 subst hcs
 have Z5 := Lh (k5.blk Z0.out (by have := hG'.out; omega))
 have V5 := Lh hv5; have R5 := Lh h5; have K5 := Lh (K0.out.trans k5 (fun _ _ h => h))
 have F5 := Lh (And.intro f1 f2)
 clear f1 f2 h5 hv5 k5
 dsimp only [NC]
 go_wp2_with (first | (with_reducible refine wpList_store_blk rfl 25 4 size25 (.tmp 2) (.tmp 6) rfl wb [iv nk, sv nt, iv nz, .slice A1 nl.length c1] rfl rfl _ Z5.out rfl rfl rfl ?_; intro w8 hb8 hk8))
 refine bodyPost_ret (v := .agg (NC nk nt nz (.slice A1 nl.length c1)).toArray) (box_res 4 size25 rfl _ _ wb _ _ rfl hb8 rfl Tryd.underlying25 rfl) rfl ⟨_, s5, _, rfl, F5.out, R5.out.kp hk8 (by have := hG'.out; omega) (fun k hk => by have := R5.out.hg; have := hG'.out; omega), ?_, K5.out.trans hk8 (fun k hk e => by have := HWB.out; omega)⟩
 have hn := hk8.nv V5.out (fun k hk _ e => by have h1 := S0.out; omega)
 exact NV.keep (fun k h1 h2 => ⟨rfl, by have h3 := HWB.out; have h4 := S0.out; omega⟩) _ _ hn
set_option maxHeartbeats 8000000 in
theorem factor_walk (h : RS B w g T E s)
  (HN : Hid (∀ kd, kd = 32 ∨ kd = 33 ∨ kd = 36 → ∀ W, RS B W g T E s → Calls Tryd.prog 39 #[pt g, nv kd] W (RdOut B W g T E (fun n s' => Ev (fun k => Src.node k kd s) (n, s') ∧ mu s' ≤ mu s - 1))))
  (HX : Hid (s.look = [40] → ∀ W, RS B W g T E s.adv → Calls Tryd.prog 62 #[pt g] W (RdOut B W g T E (fun n s' => Ev (fun k => ops k 1 s.adv) (n, s') ∧ mu s' ≤ mu s.adv)))) :
  Calls Tryd.prog 84 #[pt g] w (RdOut B w g T E (fun n s' => Ev (fun k => ops k 4 s) (n, s') ∧ mu s' ≤ mu s)) := by
 have z1 := zero25
 obtain ⟨wb, hwb⟩ : ∃ wb, wb = w.heap.size := ⟨_, rfl⟩
 have HWB := Lh hwb
 have HWb := Lh hwb.symm
 have hG' : Hid (g < wb) := Lh (by rw [hwb]; exact h.lt)
 obtain ⟨w0, hw0⟩ : ∃ w0, w0 = w.alloc (.cells #[.int .i64 0, .string ⟨#[]⟩, .int .i64 0, .slice none 0 0] 25) := ⟨_, rfl⟩
 have l0 : Below w.heap.size w w0 := by rw [hw0]; exact (Below.refl _ _).alloc (Nat.le_refl _) _
 have Z0 := Lh (show Blk w0 wb 25 [.int .i64 0, .string ⟨#[]⟩, .int .i64 0, .slice none 0 0] by rw [hw0, hwb]; exact Blk.new w _ _)
 have L0 := Lh l0
 have S0 := Lh (show w0.heap.size = wb + 1 by rw [hw0, hwb]; simp)
 have R0 := Lh (h.below l0)
 have W0 := Lh hw0
 have K0 := Lh (Kp.of_below' (Z := fun k => k = g) L0.out)
 obtain ⟨d0, d1, d2, d3, d4, d5, d6⟩ := R0.out.cells
 clear h hwb hw0 l0 d0 d2 d3 d4 d5 d6
 by_cases h4 : cls s.look = 4
 ·
  have h4I : (((cls s.look : Nat) : Int) == 4) = true := by rw [h4]; rfl
  have HC := Lh (HN.out 32 (Or.inl rfl) _ R0.out)
  have H4 := Lh h4
  clear h4 HN HX
  go_enter Tryd.func84, Tryd.ntmps84
  go_upto_region 1 with fail
  rw [← W0.out, HWb.out]
  go_wp2_with fail
  clear d1
  refine HC.out.mono ?_
  rintro e w5 ⟨n5, s5, cs5, rfl, ⟨f1, f2⟩, h5, hv5, k5⟩
  obtain ⟨nk, nt, nz, nl⟩ := n5
  obtain ⟨A1, c1, ys1, hcs, _⟩ := hv5.form
  subst hcs
  have Z5 := Lh (k5.blk Z0.out (by have := hG'.out; omega))
  have V5 := Lh hv5; have R5 := Lh h5; have K5 := Lh (K0.out.trans k5 (fun _ _ h => h))
  have F5 := Lh (And.intro (ev_fact_num H4.out f1) (Nat.le_trans f2 (Nat.sub_le _ _)))
  clear f1 f2 h5 hv5 k5
  dsimp only [NC]
  go_wp2_with (first | (with_reducible refine wpList_store_blk rfl 25 4 size25 (.tmp 2) (.tmp 12) rfl wb [iv nk, sv nt, iv nz, .slice A1 nl.length c1] rfl rfl _ Z5.out rfl rfl rfl ?_; intro w8 hb8 hk8))
  refine bodyPost_ret (v := .agg (NC nk nt nz (.slice A1 nl.length c1)).toArray) (box_res 4 size25 rfl _ _ wb _ _ rfl hb8 rfl Tryd.underlying25 rfl) rfl ⟨_, s5, _, rfl, F5.out, R5.out.kp hk8 (by have := hG'.out; omega) (fun k hk => by have := R5.out.hg; have := hG'.out; omega), ?_, K5.out.trans hk8 (fun k hk e => by have := HWB.out; omega)⟩
  have hn := hk8.nv V5.out (fun k hk _ e => by have h1 := S0.out; omega)
  exact NV.keep (fun k h1 h2 => ⟨rfl, by have h3 := HWB.out; have h4 := S0.out; omega⟩) _ _ hn
 ·
  have h4I : (((cls s.look : Nat) : Int) == 4) = false := by rw [beq_eq_false_iff_ne]; omega
  by_cases h5 : cls s.look = 5
  ·
   have h5I : (((cls s.look : Nat) : Int) == 5) = true := by rw [h5]; rfl
   have HC := Lh (HN.out 33 (Or.inr (Or.inl rfl)) _ R0.out)
   have H5 := Lh h5
   clear h4 h5 HN HX
   go_enter Tryd.func84, Tryd.ntmps84
   go_upto_region 1 with fail
   rw [← W0.out, HWb.out]
   go_wp2_with fail
   clear d1
   refine HC.out.mono ?_
   rintro e w5 ⟨n5, s5, cs5, rfl, ⟨f1, f2⟩, h5, hv5, k5⟩
   obtain ⟨nk, nt, nz, nl⟩ := n5
   obtain ⟨A1, c1, ys1, hcs, _⟩ := hv5.form
   subst hcs
   have Z5 := Lh (k5.blk Z0.out (by have := hG'.out; omega))
   have V5 := Lh hv5; have R5 := Lh h5; have K5 := Lh (K0.out.trans k5 (fun _ _ h => h))
   have F5 := Lh (And.intro (ev_fact_loc H5.out f1) (Nat.le_trans f2 (Nat.sub_le _ _)))
   clear f1 f2 h5 hv5 k5
   dsimp only [NC]
   go_wp2_with (first | (with_reducible refine wpList_store_blk rfl 25 4 size25 (.tmp 2) (.tmp 16) rfl wb [iv nk, sv nt, iv nz, .slice A1 nl.length c1] rfl rfl _ Z5.out rfl rfl rfl ?_; intro w8 hb8 hk8))
   refine bodyPost_ret (v := .agg (NC nk nt nz (.slice A1 nl.length c1)).toArray) (box_res 4 size25 rfl _ _ wb _ _ rfl hb8 rfl Tryd.underlying25 rfl) rfl ⟨_, s5, _, rfl, F5.out, R5.out.kp hk8 (by have := hG'.out; omega) (fun k hk => by have := R5.out.hg; have := hG'.out; omega), ?_, K5.out.trans hk8 (fun k hk e => by have := HWB.out; omega)⟩
   have hn := hk8.nv V5.out (fun k hk _ e => by have h1 := S0.out; omega)
   exact NV.keep (fun k h1 h2 => ⟨rfl, by have h3 := HWB.out; have h4 := S0.out; omega⟩) _ _ hn
  ·
   have h5I : (((cls s.look : Nat) : Int) == 5) = false := by rw [beq_eq_false_iff_ne]; omega
   by_cases hp : s.look = [40]
   ·
    have HS := Lh (skips_yes R0.out hp (by simp))
    have HMa := Lh (mu_adv (s := s) (by rw [hp]; simp))
    have HXX := Lh (HX.out hp)
    have HP := Lh hp
    clear h4 h5 hp HN HX
    go_enter Tryd.func84, Tryd.ntmps84
    go_upto_region 1 with fail
    rw [← W0.out, HWb.out]
    go_wp2_with fail
    clear d1
    refine HS.out.mono ?_
    rintro e w1 ⟨rfl, h1, k1⟩
    have Z1 := Lh (k1.blk Z0.out (by have := hG'.out; omega))
    have K1 := Lh (K0.out.trans k1 (fun _ _ h => h))
    have HC := Lh (HXX.out _ h1)
    have S1 := Lh (show wb + 1 ≤ w1.heap.size by rw [← S0.out]; exact k1.size)
    clear h1 k1 HS HXX Z0 K0 R0
    go_wp2_with fail
    refine HC.out.mono ?_
    rintro e w5 ⟨n5, s5, cs5, rfl, ⟨f1, f2⟩, h5, hv5, k5⟩
    obtain ⟨nk, nt, nz, nl⟩ := n5
    obtain ⟨A1, c1, ys1, hcs, _⟩ := hv5.form
    subst hcs
    have Z5 := Lh (k5.blk Z1.out (by have := hG'.out; omega))
    obtain ⟨nb, hnb⟩ : ∃ nb, nb = w5.heap.size := ⟨_, rfl⟩
    obtain ⟨w6, hw6⟩ : ∃ w6, w6 = w5.alloc (.cells #[iv nk, sv nt, iv nz, .slice A1 nl.length c1] 25) := ⟨_, rfl⟩
    have l6 : Below w5.heap.size w5 w6 := by rw [hw6]; exact (Below.refl _ _).alloc (Nat.le_refl _) _
    have B6 := Lh (show Blk w6 nb 25 [iv nk, sv nt, iv nz, .slice A1 nl.length c1] by rw [hw6, hnb]; exact Blk.new w5 _ _)
    have Z6 := Lh (Z5.out.below l6 Z5.out.lt)
    have V6 := Lh ((Kp.of_below' (Z := fun _ => False) l6).nv hv5 (fun _ _ _ h => h.elim))
    have R6 := Lh (h5.below l6)
    have K6 := Lh ((K1.out.trans k5 (fun _ _ h => h)).trans (Kp.of_below' (Z := fun _ => False) l6) (fun _ _ h => h.elim))
    have HNB := Lh (show wb < nb by have h1 := k5.size; have h2 := S1.out; omega)
    have HE := Lh (expect_any R6.out (t := [41]) (by simp))
    have F6 := Lh (And.intro (ev_fact_par HP.out f1) (show mu (s5.expect [41]) ≤ mu s by have h1 := mu_expect s5 (t := [41]) (by simp); have h2 := HMa.out; omega))
    have HW6 := Lh hw6; have HNb := Lh hnb.symm
    clear f1 f2 h5 hv5 k5 l6 hw6 hnb Z1 K1 HC HMa
    dsimp only [NC]
    go_upto_region 8 with fail
    rw [← HW6.out, HNb.out]
    go_wp2_with fail
    refine HE.out.mono ?_
    rintro e w7 ⟨rfl, h7, k7⟩
    have Z7 := Lh (k7.blk Z6.out (by have := hG'.out; omega))
    have B7 := Lh (k7.blk B6.out (by have := hG'.out; have := HNB.out; omega))
    have V7 := Lh (k7.nv V6.out (fun k hk _ e => by have h1 := S1.out; have h2 := hG'.out; omega))
    have R7 := Lh h7
    have K7 := Lh (K6.out.trans k7 (fun _ _ h => h))
    clear h7 k7 Z6 B6 V6 R6 K6 HE
    go_wp2_with (first
     | (with_reducible refine wpList_load_cells rfl 25 4 size25 (.tmp 3) rfl ⟨nb, 0, none⟩ rfl [iv nk, sv nt, iv nz, .slice A1 nl.length c1] rfl _ Tryd.underlying25 rfl B7.out.at ?_)
     | (with_reducible refine wpList_store_blk rfl 25 4 size25 (.tmp 2) (.tmp 23) rfl wb [iv nk, sv nt, iv nz, .slice A1 nl.length c1] rfl rfl _ Z7.out rfl rfl rfl ?_; intro w8 hb8 hk8))
    refine bodyPost_ret (v := .agg (NC nk nt nz (.slice A1 nl.length c1)).toArray) (box_res 4 size25 rfl _ _ wb _ _ rfl hb8 rfl Tryd.underlying25 rfl) rfl ⟨_, _, _, rfl, F6.out, R7.out.kp hk8 (by have := hG'.out; omega) (fun k hk => by have := R7.out.hg; have := hG'.out; omega), ?_, K7.out.trans hk8 (fun k hk e => by have := HWB.out; omega)⟩
    have hn := hk8.nv V7.out (fun k hk _ e => by have h1 := S1.out; omega)
    exact NV.keep (fun k h1 h2 => ⟨rfl, by have h3 := HWB.out; have h4 := S1.out; omega⟩) _ _ hn
   ·
    have HS := Lh (skips_no R0.out hp)
    have HK := Lh (kindHere_any R0.out 36 36)
    obtain ⟨kk, hkk⟩ : ∃ kk, kk = s.kindHere 36 36 := ⟨_, rfl⟩
    rw [← hkk] at HK
    by_cases h36 : kk = 36
    ·
     have h36I : (kk == 36) = true := by rw [beq_iff_eq]; exact h36
     have HEv : Hid (∀ r, Ev (fun k => Src.node k 36 s) r → Ev (fun k => ops k 4 s) r) := Lh (fun r hr => ev_fact_kind h4 h5 hp (hkk.symm.trans h36) hr)
     clear h4 h5 hp hkk h36 HX
     go_enter Tryd.func84, Tryd.ntmps84
     go_upto_region 1 with fail
     rw [← W0.out, HWb.out]
     go_wp2_with fail
     clear d1
     refine HS.out.mono ?_
     rintro e w1 ⟨rfl, rfl⟩
     go_wp2_with fail
     refine HK.out.mono ?_
     rintro e w1 ⟨rfl, hb1⟩
     have Z1 := Lh (Z0.out.below hb1 Z0.out.lt)
     have K1 := Lh (K0.out.trans (Kp.of_below' (Z := fun _ => False) hb1) (fun _ _ h => h.elim))
     have HC := Lh (HN.out 36 (Or.inr (Or.inr rfl)) _ (R0.out.below hb1))
     have S1 := Lh (show wb + 1 ≤ w1.heap.size by rw [← S0.out]; exact hb1.size)
     clear hb1 HN HK HS Z0 K0 R0
     go_wp2_with fail
     refine HC.out.mono ?_
     rintro e w5 ⟨n5, s5, cs5, rfl, ⟨f1, f2⟩, h5, hv5, k5⟩
     obtain ⟨nk, nt, nz, nl⟩ := n5
     obtain ⟨A1, c1, ys1, hcs, _⟩ := hv5.form
     subst hcs
     have Z5 := Lh (k5.blk Z1.out (by have := hG'.out; omega))
     have V5 := Lh hv5; have R5 := Lh h5; have K5 := Lh (K1.out.trans k5 (fun _ _ h => h))
     have F5 := Lh (And.intro (HEv.out _ f1) (Nat.le_trans f2 (Nat.sub_le _ _)))
     clear f1 f2 h5 hv5 k5
     dsimp only [NC]
     go_wp2_with (first | (with_reducible refine wpList_store_blk rfl 25 4 size25 (.tmp 2) (.tmp 28) rfl wb [iv nk, sv nt, iv nz, .slice A1 nl.length c1] rfl rfl _ Z5.out rfl rfl rfl ?_; intro w8 hb8 hk8))
     refine bodyPost_ret (v := .agg (NC nk nt nz (.slice A1 nl.length c1)).toArray) (box_res 4 size25 rfl _ _ wb _ _ rfl hb8 rfl Tryd.underlying25 rfl) rfl ⟨_, s5, _, rfl, F5.out, R5.out.kp hk8 (by have := hG'.out; omega) (fun k hk => by have := R5.out.hg; have := hG'.out; omega), ?_, K5.out.trans hk8 (fun k hk e => by have := HWB.out; omega)⟩
     have hn := hk8.nv V5.out (fun k hk _ e => by have h1 := S1.out; omega)
     exact NV.keep (fun k h1 h2 => ⟨rfl, by have h3 := HWB.out; have h4 := S1.out; omega⟩) _ _ hn
    ·
     have h36I : (kk == 36) = false := by rw [beq_eq_false_iff_ne]; exact h36
     have HEv := Lh (ev_fact_place h4 h5 hp (fun e => h36 (hkk.trans e)))
     clear h4 h5 hp hkk h36 HX HN
     go_enter Tryd.func84, Tryd.ntmps84
     go_upto_region 1 with fail
     rw [← W0.out, HWb.out]
     go_wp2_with fail
     clear d1
     refine HS.out.mono ?_
     rintro e w1 ⟨rfl, rfl⟩
     go_wp2_with fail
     refine HK.out.mono ?_
     rintro e w1 ⟨rfl, hb1⟩
     have Z1 := Lh (Z0.out.below hb1 Z0.out.lt)
     have K1 := Lh (K0.out.trans (Kp.of_below' (Z := fun _ => False) hb1) (fun _ _ h => h.elim))
     have HC := Lh (place_any (R0.out.below hb1))
     have S1 := Lh (show wb + 1 ≤ w1.heap.size by rw [← S0.out]; exact hb1.size)
     have HMp := Lh (mu_place s)
     clear hb1 HK HS Z0 K0 R0
     go_wp2_with fail
     refine HC.out.mono ?_
     rintro e w5 ⟨n5, s5, cs5, rfl, f1, h5, hv5, k5⟩
     obtain ⟨nk, nt, nz, nl⟩ := n5
     obtain ⟨A1, c1, ys1, hcs, _⟩ := hv5.form
     subst hcs
     have Z5 := Lh (k5.blk Z1.out (by have := hG'.out; omega))
     have V5 := Lh hv5; have R5 := Lh h5; have K5 := Lh (K1.out.trans k5 (fun _ _ h => h))
     have F5 := Lh ((by have h1 := HEv.out; rw [← f1] at h1; have h2 := HMp.out; rw [← f1] at h2; exact And.intro h1 (Nat.le_trans h2 (Nat.sub_le _ _))))
     clear f1 h5 hv5 k5
     dsimp only [NC]
     go_wp2_with (first | (with_reducible refine wpList_store_blk rfl 25 4 size25 (.tmp 2) (.tmp 30) rfl wb [iv nk, sv nt, iv nz, .slice A1 nl.length c1] rfl rfl _ Z5.out rfl rfl rfl ?_; intro w8 hb8 hk8))
     refine bodyPost_ret (v := .agg (NC nk nt nz (.slice A1 nl.length c1)).toArray) (box_res 4 size25 rfl _ _ wb _ _ rfl hb8 rfl Tryd.underlying25 rfl) rfl ⟨_, s5, _, rfl, F5.out, R5.out.kp hk8 (by have := hG'.out; omega) (fun k hk => by have := R5.out.hg; have := hG'.out; omega), ?_, K5.out.trans hk8 (fun k hk e => by have := HWB.out; omega)⟩
     have hn := hk8.nv V5.out (fun k hk _ e => by have h1 := S1.out; omega)
     exact NV.keep (fun k h1 h2 => ⟨rfl, by have h3 := HWB.out; have h4 := S1.out; omega⟩) _ _ hn
end
end Go.Proofs.YtpbhgebblpdmnaaDoor
