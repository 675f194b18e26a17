/-
  The generator: an expression.
  No condition but the lengths.
-/
import Derived.Test.YtpbhgebblpdmnaaDoorZ
import Derived.Test.YtpbhgebblpdmnaaDoorGg
import Derived.OrdersHeld
namespace Go.Proofs.YtpbhgebblpdmnaaDoor
open Go.RowKit Wr Src
set_option linter.unusedVariables false
set_option maxRecDepth 100000
section
variable {g : Nat} {v : Value} {L : List Int}
theorem dm_q {r q : Nat} (h : r % 6 = q) : IntKind.i64.wrap (Int.tmod (r : Int) 6) = (q : Int) := by
 have : Int.tmod (r : Int) 6 = (q : Int) := by rw [Int.tmod_eq_emod_of_nonneg (by omega)]; omega
 rw [this]; exact IntWalk.i64_in _ (by omega)
theorem em_q {r q : Nat} (h : r % 6 = q) : (r : Int) % 6 = (q : Int) := by omega
def numL : List Int := [0, 1, 2, 7, 10, 999]
theorem num_ok : ∀ z ∈ numL, 0 ≤ z ∧ z ≤ 999 := by decide
set_option maxHeartbeats 8000000 in
theorem value_step (d : Nat) (hd : d ≤ 3) (HIH : Hid (∀ e : Nat, d = e + 1 → ∀ (W : World) (i : Nat), MS g W v L i → i + Kv e ≤ 10000000 → Calls Tryd.prog 28 #[pt g, nv e] W (GOut g W v L (XG L.length i e)))) {i : Nat} {w : World} (h : MS g w v L i) (hi : i + Kv d ≤ 10000000) : Calls Tryd.prog 28 #[pt g, nv d] w (GOut g w v L (XG L.length i d)) := by
 have z1 := zero25
 obtain ⟨A, c, hv, hc, _⟩ := h.l.f
 subst hv
 obtain ⟨wb, hwb⟩ : ∃ wb, wb = w.heap.size := ⟨_, rfl⟩
 have HWB := Lh hwb
 have HWb := Lh hwb.symm
 obtain ⟨w0, hw0⟩ : ∃ w0, w0 = w.alloc (.cells #[.int .i64 0, .string ⟨#[]⟩, .int .i64 0, .slice none 0 0] 25) := ⟨_, rfl⟩
 have l0 : Below w.heap.size w w0 := by rw [hw0]; exact (Below.refl _ _).alloc (Nat.le_refl _) _
 have Z0 := Lh (show Blk w0 wb 25 [.int .i64 0, .string ⟨#[]⟩, .int .i64 0, .slice none 0 0] by rw [hw0, hwb]; exact Blk.new w _ _)
 have L0 := Lh l0
 have HG := Lh (show g < wb by have := h.lt; omega)
 have W0 := Lh hw0
 have HI := Lh (show i ≤ 10000000 ∧ i + Kv d ≤ 10000000 ∧ 4 ≤ Kv d from ⟨by omega, hi, Kv_4 d⟩)
 have HT := Lh (take_any (h.below l0) (by omega) 12 (by omega) (by omega))
 have HNb := Lh (show L.length ≤ 17592186044416 from h.l.n)
 clear h hwb hw0 l0 hi hc
 go_enter Tryd.func28, Tryd.ntmps28
 go_upto_region 1 with fail
 rw [HWb.out]
 rw [← W0.out]
 go_wp2_with fail
 refine HT.out.mono ?_
 rintro e w1 ⟨r, hr, hr0, rfl, m1, k1⟩
 have M1 := Lh m1
 have Z1 := Lh (k1.blk Z0.out (by have := HG.out; omega))
 have K1 := Lh ((Kp.of_below' (Z := fun k => k = g) L0.out).trans k1 (fun _ _ h => h))
 have HR := Lh (And.intro hr hr0.none)
 clear m1 k1 hr hr0 Z0 L0 HT
 go_upto_region 2 with fail
 by_cases hd0 : d = 0
 ·
  have hdI : (d : Int) ≤ 0 := by omega
  obtain ⟨q, hq⟩ : ∃ q, r % 6 = q := ⟨_, rfl⟩
  have q3 := dm_q hq
  have HQ := Lh (em_q hq)
  have hq5 : q ≤ 5 := by omega
  have HK := Lh (show q ≠ 0 → i < L.length from fun e => by rcases Nat.lt_or_ge i L.length with h | h; exact h; have := HR.out.2 h; omega)
  clear hd0 hq
  refine wp_region_any (by kernel_rfl) ?_
  change wpAny _ _ _ _ _ _ _ (World.drew w1)
  have M2 := Lh (M1.out.below ((Below.refl _ _).drew))
  have Z2 := Lh (Z1.out.drew)
  have K2 := Lh (K1.out.trans (Kp.drew (fun _ => False) w1) (fun _ _ h => h.elim))
  generalize World.drew w1 = wdr at M2 Z2 K2 ⊢
  clear M1 Z1 K1
  refine tg 0 (nv d) ?_
  refine tf 1 (.bool true) ?_ ?_
  exact fun W => (by go_simp; omega)
  refine tg 2 (.bool true) ?_
  refine tn 3 ?_
  refine tn 4 ?_
  refine tn 5 ?_
  refine tn 6 ?_
  refine tn 7 ?_
  refine tn 8 ?_
  refine tn 9 ?_
  refine tn 10 ?_
  refine tn 11 ?_
  refine tn 12 ?_
  refine tg 13 (.bool true) ?_
  refine wpAny_done (by kernel_rfl) ?_ _
  try simp only [zp, zn, zu, zv, zw]
  go_upto_region 4 with fail
  rw [HQ.out]
  clear q3 HQ
  obtain h0 | h0 | h0 | h0 | h0 | h0 : q = 0 ∨ q = 1 ∨ q = 2 ∨ q = 3 ∨ q = 4 ∨ q = 5 := by omega
  ·
   subst h0
   clear HK HR
   obtain ⟨nb, hnb⟩ : ∃ n, n = wdr.heap.size := ⟨_, rfl⟩
   have HNq := Lh hnb.symm
   obtain ⟨w3, hw3⟩ : ∃ w3, w3 = wdr.alloc (.cells #[.int .i64 0, .int .i64 1, .int .i64 2, .int .i64 7, .int .i64 10, .int .i64 999] 3) := ⟨_, rfl⟩
   have l3 : Below wdr.heap.size wdr w3 := by rw [hw3]; exact (Below.refl _ _).alloc (Nat.le_refl _) _
   have X3 := Lh (show Blk w3 nb 3 [.int .i64 0, .int .i64 1, .int .i64 2, .int .i64 7, .int .i64 10, .int .i64 999] by rw [hw3, hnb]; exact Blk.new wdr _ _)
   have W3 := Lh hw3
   have HGn := Lh (show nb ≠ g by have := M2.out.lt; omega)
   have HT2 := Lh (take_any (M2.out.below l3) (by have := HI.out; omega) 6 (by omega) (by omega))
   have Z3 := Lh (Z2.out.below l3 Z2.out.lt)
   have K3 := Lh (K2.out.trans (Kp.of_below' (Z := fun k => k = g) l3) (fun _ _ h => h))
   have bsq : ∀ W : World, (Instr.buildSlice 22 6 #[(0, .int .i64 0), (1, .int .i64 1), (2, .int .i64 2), (3, .int .i64 7), (4, .int .i64 10), (5, .int .i64 999)]).run Tryd.prog W = .ok (.slice (some ⟨W.heap.size, 0, none⟩) 6 6) (W.alloc (.cells #[.int .i64 0, .int .i64 1, .int .i64 2, .int .i64 7, .int .i64 10, .int .i64 999] 3)) := fun _ => by kernel_rfl
   clear hnb hw3 l3 Z2 K2 M2
   go_wp2_with fail
   rw [HNq.out, ← W3.out]
   refine HT2.out.mono ?_
   rintro e w4 ⟨r2, hr2, hr2f, rfl, m4, k4⟩
   obtain ⟨z, hz⟩ : ∃ z, numL[r2]? = some z := ⟨_, List.getElem?_eq_getElem (show r2 < numL.length from hr2)⟩
   have cz : w4.cell? ⟨nb, r2, none⟩ = some (iv z) := by
    refine ((k4.blk X3.out HGn.out).cell r2).trans ?_
    show (numL.map (fun z => iv z))[r2]? = _
    rw [List.getElem?_map, hz]; rfl
   have M4 := Lh m4
   have Z4 := Lh (k4.blk Z3.out (by have := HG.out; omega))
   have K4 := Lh (K3.out.trans k4 (fun _ _ h => h))
   have HZb := Lh (num_ok z (List.mem_of_getElem? hz))
   have HX := Lh (show L.length ≤ i + 1 → z = 0 from fun e => by have := hr2f.none e; subst this; injection hz with hz; exact hz.symm)
   have hr2I : (r2 : Int) < 6 := by omega
   clear hr2 hr2f m4 k4 hz X3 W3 HT2 bsq Z3 K3
   go_wp2_with (first | (with_reducible refine wpList_store_blk rfl 25 4 size25 (.tmp 4) (.tmp 34) rfl wb [.int .i64 32, .string ⟨#[]⟩, .int .i64 z, .slice none 0 0] rfl rfl _ Z4.out rfl rfl rfl ?_; intro w8 hb8 hk8))
   exact bodyPost_ret (v := .agg (NC 32 [] z (.slice none 0 0)).toArray) (box_res 4 size25 rfl _ _ wb (NC 32 [] z (.slice none 0 0)) _ rfl hb8 rfl Tryd.underlying25 rfl) rfl ⟨.mk 32 [] z [], i + 2, _, rfl, xg_num HZb.out.1 HZb.out.2 HX.out, M4.out.kp hk8 (fun j e => by have := HG.out; omega), NV.leaf (fine_small (by omega) (by omega) (by have := HZb.out; omega) (by have := HZb.out; omega) (by simp)), K4.out.trans hk8 (fun k hk e => by have := HWB.out; omega), by have h1 := hk8.size; have h2 := Z4.out.lt; have h3 := HWB.out; omega⟩
  ·
   subst h0
   clear HK HR
   obtain ⟨nb, hnb⟩ : ∃ n, n = wdr.heap.size := ⟨_, rfl⟩
   have HNq := Lh hnb.symm
   obtain ⟨w3, hw3⟩ : ∃ w3, w3 = wdr.alloc (.cells #[.int .i64 0, .int .i64 1, .int .i64 2, .int .i64 7, .int .i64 10, .int .i64 999] 3) := ⟨_, rfl⟩
   have l3 : Below wdr.heap.size wdr w3 := by rw [hw3]; exact (Below.refl _ _).alloc (Nat.le_refl _) _
   have X3 := Lh (show Blk w3 nb 3 [.int .i64 0, .int .i64 1, .int .i64 2, .int .i64 7, .int .i64 10, .int .i64 999] by rw [hw3, hnb]; exact Blk.new wdr _ _)
   have W3 := Lh hw3
   have HGn := Lh (show nb ≠ g by have := M2.out.lt; omega)
   have HT2 := Lh (take_any (M2.out.below l3) (by have := HI.out; omega) 6 (by omega) (by omega))
   have Z3 := Lh (Z2.out.below l3 Z2.out.lt)
   have K3 := Lh (K2.out.trans (Kp.of_below' (Z := fun k => k = g) l3) (fun _ _ h => h))
   have bsq : ∀ W : World, (Instr.buildSlice 22 6 #[(0, .int .i64 0), (1, .int .i64 1), (2, .int .i64 2), (3, .int .i64 7), (4, .int .i64 10), (5, .int .i64 999)]).run Tryd.prog W = .ok (.slice (some ⟨W.heap.size, 0, none⟩) 6 6) (W.alloc (.cells #[.int .i64 0, .int .i64 1, .int .i64 2, .int .i64 7, .int .i64 10, .int .i64 999] 3)) := fun _ => by kernel_rfl
   clear hnb hw3 l3 Z2 K2 M2
   go_wp2_with fail
   rw [HNq.out, ← W3.out]
   refine HT2.out.mono ?_
   rintro e w4 ⟨r2, hr2, hr2f, rfl, m4, k4⟩
   obtain ⟨z, hz⟩ : ∃ z, numL[r2]? = some z := ⟨_, List.getElem?_eq_getElem (show r2 < numL.length from hr2)⟩
   have cz : w4.cell? ⟨nb, r2, none⟩ = some (iv z) := by
    refine ((k4.blk X3.out HGn.out).cell r2).trans ?_
    show (numL.map (fun z => iv z))[r2]? = _
    rw [List.getElem?_map, hz]; rfl
   have M4 := Lh m4
   have Z4 := Lh (k4.blk Z3.out (by have := HG.out; omega))
   have K4 := Lh (K3.out.trans k4 (fun _ _ h => h))
   have HZb := Lh (num_ok z (List.mem_of_getElem? hz))
   have HX := Lh (show L.length ≤ i + 1 → z = 0 from fun e => by have := hr2f.none e; subst this; injection hz with hz; exact hz.symm)
   have hr2I : (r2 : Int) < 6 := by omega
   clear hr2 hr2f m4 k4 hz X3 W3 HT2 bsq Z3 K3
   go_wp2_with (first | (with_reducible refine wpList_store_blk rfl 25 4 size25 (.tmp 4) (.tmp 34) rfl wb [.int .i64 32, .string ⟨#[]⟩, .int .i64 z, .slice none 0 0] rfl rfl _ Z4.out rfl rfl rfl ?_; intro w8 hb8 hk8))
   exact bodyPost_ret (v := .agg (NC 32 [] z (.slice none 0 0)).toArray) (box_res 4 size25 rfl _ _ wb (NC 32 [] z (.slice none 0 0)) _ rfl hb8 rfl Tryd.underlying25 rfl) rfl ⟨.mk 32 [] z [], i + 2, _, rfl, xg_num HZb.out.1 HZb.out.2 HX.out, M4.out.kp hk8 (fun j e => by have := HG.out; omega), NV.leaf (fine_small (by omega) (by omega) (by have := HZb.out; omega) (by have := HZb.out; omega) (by simp)), K4.out.trans hk8 (fun k hk e => by have := HWB.out; omega), by have h1 := hk8.size; have h2 := Z4.out.lt; have h3 := HWB.out; omega⟩
  ·
   subst h0
   have HLt := Lh (HK.out (by decide))
   clear HK HR
   have HC := Lh (own_any M2.out (by have := HI.out; omega))
   clear M2
   go_wp2_with fail
   refine HC.out.mono ?_
   rintro e w4 ⟨t, rfl, ht, hta, m4, k4⟩
   have M4 := Lh m4
   have Z4 := Lh (k4.blk Z2.out (by have := HG.out; omega))
   have K4 := Lh (K2.out.trans k4 (fun _ _ h => h))
   have HTt := Lh (And.intro ht hta)
   have htl : t.length ≤ 16 := (own_ok t ht).2
   clear m4 k4 ht hta HC Z2 K2
   go_wp2_with (first | (with_reducible refine wpList_store_blk rfl 25 4 size25 (.tmp 4) (.tmp 39) rfl wb [.int .i64 33, sv t, .int .i64 0, .slice none 0 0] rfl rfl _ Z4.out rfl rfl rfl ?_; intro w8 hb8 hk8))
   exact bodyPost_ret (v := .agg (NC 33 t 0 (.slice none 0 0)).toArray) (box_res 4 size25 rfl _ _ wb (NC 33 t 0 (.slice none 0 0)) _ rfl hb8 rfl Tryd.underlying25 rfl) rfl ⟨.mk 33 t 0 [], i + 2, _, rfl, xg_local HTt.out.1 HLt.out HTt.out.2, M4.out.kp hk8 (fun j e => by have := HG.out; omega), NV.leaf (fine_small (by omega) (by omega) (by omega) (by omega) (by omega)), K4.out.trans hk8 (fun k hk e => by have := HWB.out; omega), by have h1 := hk8.size; have h2 := Z4.out.lt; have h3 := HWB.out; omega⟩
  ·
   subst h0
   have HLt := Lh (HK.out (by decide))
   clear HK HR
   have HC := Lh (gat_any M2.out (by have := HI.out; omega))
   clear M2
   go_wp2_with fail
   refine HC.out.mono ?_
   rintro e w4 ⟨n4, j4, cs4, rfl, hf, m4, v4, k4, s4⟩
   obtain ⟨nk, nt, nz, nl⟩ := n4
   obtain ⟨A4, c4, ys4, hcs, _⟩ := v4.form
   subst hcs
   have M4 := Lh m4
   have Z4 := Lh (k4.blk Z2.out (by have := HG.out; omega))
   have K4 := Lh (K2.out.trans k4 (fun _ _ h => h))
   have V4 := Lh (NV.keep (P' := fun k => wb < k) (fun k h1 h2 => ⟨rfl, by have := Z2.out.lt; omega⟩) _ _ v4)
   have HF := Lh hf
   clear m4 k4 hf v4 s4 HC Z2 K2
   dsimp only [NC]
   go_wp2_with (first | (with_reducible refine wpList_store_blk rfl 25 4 size25 (.tmp 4) (.tmp 44) rfl wb [iv nk, sv nt, iv nz, .slice A4 nl.length c4] rfl rfl _ Z4.out rfl rfl rfl ?_; intro w8 hb8 hk8))
   exact bodyPost_ret (v := .agg (NC nk nt nz (.slice A4 nl.length c4)).toArray) (box_res 4 size25 rfl _ _ wb (NC nk nt nz (.slice A4 nl.length c4)) _ rfl hb8 rfl Tryd.underlying25 rfl) rfl ⟨.mk nk nt nz nl, j4, _, rfl, xg_at HF.out HLt.out, M4.out.kp hk8 (fun j e => by have := HG.out; omega), NV.keep (fun k h1 h2 => ⟨rfl, by have h3 := HWB.out; omega⟩) _ _ (hk8.nv V4.out (fun k hk _ e => by omega)), K4.out.trans hk8 (fun k hk e => by have := HWB.out; omega), by have h1 := hk8.size; have h2 := Z4.out.lt; have h3 := HWB.out; omega⟩
  ·
   subst h0
   have HLt := Lh (HK.out (by decide))
   clear HK HR
   have HC := Lh (gat_any M2.out (by have := HI.out; omega))
   clear M2
   go_wp2_with fail
   refine HC.out.mono ?_
   rintro e w4 ⟨n4, j4, cs4, rfl, hf, m4, v4, k4, s4⟩
   obtain ⟨nk, nt, nz, nl⟩ := n4
   obtain ⟨A4, c4, ys4, hcs, _⟩ := v4.form
   subst hcs
   have M4 := Lh m4
   have Z4 := Lh (k4.blk Z2.out (by have := HG.out; omega))
   have K4 := Lh (K2.out.trans k4 (fun _ _ h => h))
   have V4 := Lh (NV.keep (P' := fun k => wb < k) (fun k h1 h2 => ⟨rfl, by have := Z2.out.lt; omega⟩) _ _ v4)
   have HF := Lh hf
   clear m4 k4 hf v4 s4 HC Z2 K2
   dsimp only [NC]
   go_wp2_with (first | (with_reducible refine wpList_store_blk rfl 25 4 size25 (.tmp 4) (.tmp 44) rfl wb [iv nk, sv nt, iv nz, .slice A4 nl.length c4] rfl rfl _ Z4.out rfl rfl rfl ?_; intro w8 hb8 hk8))
   exact bodyPost_ret (v := .agg (NC nk nt nz (.slice A4 nl.length c4)).toArray) (box_res 4 size25 rfl _ _ wb (NC nk nt nz (.slice A4 nl.length c4)) _ rfl hb8 rfl Tryd.underlying25 rfl) rfl ⟨.mk nk nt nz nl, j4, _, rfl, xg_at HF.out HLt.out, M4.out.kp hk8 (fun j e => by have := HG.out; omega), NV.keep (fun k h1 h2 => ⟨rfl, by have h3 := HWB.out; omega⟩) _ _ (hk8.nv V4.out (fun k hk _ e => by omega)), K4.out.trans hk8 (fun k hk e => by have := HWB.out; omega), by have h1 := hk8.size; have h2 := Z4.out.lt; have h3 := HWB.out; omega⟩
  ·
   subst h0
   have HLt := Lh (HK.out (by decide))
   clear HK HR
   go_wp2_with (first | (with_reducible refine wpList_store_blk rfl 25 4 size25 (.tmp 4) (.tmp 47) rfl wb [.int .i64 36, .string ⟨#[]⟩, .int .i64 0, .slice none 0 0] rfl rfl _ Z2.out rfl rfl rfl ?_; intro w8 hb8 hk8))
   exact bodyPost_ret (v := .agg (NC 36 [] 0 (.slice none 0 0)).toArray) (box_res 4 size25 rfl _ _ wb (NC 36 [] 0 (.slice none 0 0)) _ rfl hb8 rfl Tryd.underlying25 rfl) rfl ⟨.mk 36 [] 0 [], i + 1, _, rfl, xg_kind HLt.out, M2.out.kp hk8 (fun j e => by have := HG.out; omega), NV.leaf (fine_small (by omega) (by omega) (by omega) (by omega) (by simp)), K2.out.trans hk8 (fun k hk e => by have := HWB.out; omega), by have h1 := hk8.size; have h2 := Z2.out.lt; have h3 := HWB.out; omega⟩
 ·
  have hdI : ¬ (d : Int) ≤ 0 := by omega
  by_cases ho : L.length < i + 1
  ·
   have hoI : (L.length : Int) < (i : Int) + 1 := by omega
   have hr0 : r = 0 := HR.out.2 (by omega)
   subst hr0
   clear ho hd0
   refine wp_region_held (S := fun W => Blk W g 41 [.slice A L.length c, nv (i + 1)]) (by kernel_rfl) ?_
   change wpAnyH _ _ _ _ _ _ _ _ (World.drew w1)
   have hs0 : Blk (World.drew w1) g 41 [.slice A L.length c, nv (i + 1)] := M1.out.b
   have M2 := Lh (M1.out.below ((Below.refl _ _).drew))
   have Z2 := Lh (Z1.out.drew)
   have K2 := Lh (K1.out.trans (Kp.drew (fun _ => False) w1) (fun _ _ h => h.elim))
   generalize World.drew w1 = wdr at M2 Z2 K2 hs0 ⊢
   clear M1 Z1 K1
   refine tgH 0 (nv d) hs0 ?_
   refine tfH 1 (.bool false) hs0 ?_ ?_
   exact fun W hW => (by go_simp; omega)
   refine tgH 2 (.bool false) hs0 ?_
   refine tgH 3 (pt g) hs0 ?_
   refine tgH 4 (pt g) hs0 ?_
   refine tgH 5 (.pointer (some ⟨g, 1, none⟩)) hs0 ?_
   refine tfH 6 (.int .i64 ((i : Int) + 1)) hs0 ?_ ?_
   exact fun W hW => by have hcl : W.cell? ⟨g, 1, none⟩ = some (.int .i64 ((i : Int) + 1)) := (Blk.cell hW 1).trans rfl; go_simp
   refine tgH 7 (pt g) hs0 ?_
   refine tgH 8 (pt g) hs0 ?_
   refine tgH 9 (.pointer (some ⟨g, 0, none⟩)) hs0 ?_
   refine tfH 10 (.slice A L.length c) hs0 ?_ ?_
   exact fun W hW => by have hcl : W.cell? ⟨g, 0, none⟩ = some (.slice A L.length c) := (Blk.cell hW 0).trans rfl; go_simp
   refine tgH 11 (.int .i64 (L.length : Int)) hs0 ?_
   refine tgH 12 (.bool true) hs0 ?_
   refine tgH 13 (.bool true) hs0 ?_
   refine wpAnyH_done (by kernel_rfl) ?_ _
   try simp only [zp, zn, zu, zv, zw]
   clear hs0
   clear HR
   obtain ⟨nb, hnb⟩ : ∃ n, n = wdr.heap.size := ⟨_, rfl⟩
   have HNq := Lh hnb.symm
   obtain ⟨w3, hw3⟩ : ∃ w3, w3 = wdr.alloc (.cells #[.int .i64 0, .int .i64 1, .int .i64 2, .int .i64 7, .int .i64 10, .int .i64 999] 3) := ⟨_, rfl⟩
   have l3 : Below wdr.heap.size wdr w3 := by rw [hw3]; exact (Below.refl _ _).alloc (Nat.le_refl _) _
   have X3 := Lh (show Blk w3 nb 3 [.int .i64 0, .int .i64 1, .int .i64 2, .int .i64 7, .int .i64 10, .int .i64 999] by rw [hw3, hnb]; exact Blk.new wdr _ _)
   have W3 := Lh hw3
   have HGn := Lh (show nb ≠ g by have := M2.out.lt; omega)
   have HT2 := Lh (take_any (M2.out.below l3) (by have := HI.out; omega) 6 (by omega) (by omega))
   have Z3 := Lh (Z2.out.below l3 Z2.out.lt)
   have K3 := Lh (K2.out.trans (Kp.of_below' (Z := fun k => k = g) l3) (fun _ _ h => h))
   have bsq : ∀ W : World, (Instr.buildSlice 22 6 #[(0, .int .i64 0), (1, .int .i64 1), (2, .int .i64 2), (3, .int .i64 7), (4, .int .i64 10), (5, .int .i64 999)]).run Tryd.prog W = .ok (.slice (some ⟨W.heap.size, 0, none⟩) 6 6) (W.alloc (.cells #[.int .i64 0, .int .i64 1, .int .i64 2, .int .i64 7, .int .i64 10, .int .i64 999] 3)) := fun _ => by kernel_rfl
   clear hnb hw3 l3 Z2 K2 M2
   go_wp2_with fail
   rw [HNq.out, ← W3.out]
   refine HT2.out.mono ?_
   rintro e w4 ⟨r2, hr2, hr2f, rfl, m4, k4⟩
   obtain ⟨z, hz⟩ : ∃ z, numL[r2]? = some z := ⟨_, List.getElem?_eq_getElem (show r2 < numL.length from hr2)⟩
   have cz : w4.cell? ⟨nb, r2, none⟩ = some (iv z) := by
    refine ((k4.blk X3.out HGn.out).cell r2).trans ?_
    show (numL.map (fun z => iv z))[r2]? = _
    rw [List.getElem?_map, hz]; rfl
   have M4 := Lh m4
   have Z4 := Lh (k4.blk Z3.out (by have := HG.out; omega))
   have K4 := Lh (K3.out.trans k4 (fun _ _ h => h))
   have HZb := Lh (num_ok z (List.mem_of_getElem? hz))
   have HX := Lh (show L.length ≤ i + 1 → z = 0 from fun e => by have := hr2f.none e; subst this; injection hz with hz; exact hz.symm)
   have hr2I : (r2 : Int) < 6 := by omega
   clear hr2 hr2f m4 k4 hz X3 W3 HT2 bsq Z3 K3
   go_wp2_with (first | (with_reducible refine wpList_store_blk rfl 25 4 size25 (.tmp 4) (.tmp 34) rfl wb [.int .i64 32, .string ⟨#[]⟩, .int .i64 z, .slice none 0 0] rfl rfl _ Z4.out rfl rfl rfl ?_; intro w8 hb8 hk8))
   exact bodyPost_ret (v := .agg (NC 32 [] z (.slice none 0 0)).toArray) (box_res 4 size25 rfl _ _ wb (NC 32 [] z (.slice none 0 0)) _ rfl hb8 rfl Tryd.underlying25 rfl) rfl ⟨.mk 32 [] z [], i + 2, _, rfl, xg_num HZb.out.1 HZb.out.2 HX.out, M4.out.kp hk8 (fun j e => by have := HG.out; omega), NV.leaf (fine_small (by omega) (by omega) (by have := HZb.out; omega) (by have := HZb.out; omega) (by simp)), K4.out.trans hk8 (fun k hk e => by have := HWB.out; omega), by have h1 := hk8.size; have h2 := Z4.out.lt; have h3 := HWB.out; omega⟩
  ·
   have hoI : ¬ (L.length : Int) < (i : Int) + 1 := by omega
   have HLt := Lh (show i < L.length by omega)
   have hrI : (r : Int) < 12 := by have := HR.out.1; omega
   obtain ⟨e0, he0⟩ : ∃ e, d = e + 1 := ⟨d - 1, by omega⟩
   have HE := Lh he0
   have q5 : IntKind.i64.wrap ((d : Int) - 1) = (e0 : Int) := by rw [show (d : Int) - 1 = (e0 : Int) by omega]; exact IntWalk.i64_in _ (by omega)
   clear ho he0 hd0
   refine wp_region_held (S := fun W => Blk W g 41 [.slice A L.length c, nv (i + 1)]) (by kernel_rfl) ?_
   change wpAnyH _ _ _ _ _ _ _ _ (World.drew w1)
   have hs0 : Blk (World.drew w1) g 41 [.slice A L.length c, nv (i + 1)] := M1.out.b
   have M2 := Lh (M1.out.below ((Below.refl _ _).drew))
   have Z2 := Lh (Z1.out.drew)
   have K2 := Lh (K1.out.trans (Kp.drew (fun _ => False) w1) (fun _ _ h => h.elim))
   generalize World.drew w1 = wdr at M2 Z2 K2 hs0 ⊢
   clear M1 Z1 K1
   refine tgH 0 (nv d) hs0 ?_
   refine tfH 1 (.bool false) hs0 ?_ ?_
   exact fun W hW => (by go_simp; omega)
   refine tgH 2 (.bool false) hs0 ?_
   refine tgH 3 (pt g) hs0 ?_
   refine tgH 4 (pt g) hs0 ?_
   refine tgH 5 (.pointer (some ⟨g, 1, none⟩)) hs0 ?_
   refine tfH 6 (.int .i64 ((i : Int) + 1)) hs0 ?_ ?_
   exact fun W hW => by have hcl : W.cell? ⟨g, 1, none⟩ = some (.int .i64 ((i : Int) + 1)) := (Blk.cell hW 1).trans rfl; go_simp
   refine tgH 7 (pt g) hs0 ?_
   refine tgH 8 (pt g) hs0 ?_
   refine tgH 9 (.pointer (some ⟨g, 0, none⟩)) hs0 ?_
   refine tfH 10 (.slice A L.length c) hs0 ?_ ?_
   exact fun W hW => by have hcl : W.cell? ⟨g, 0, none⟩ = some (.slice A L.length c) := (Blk.cell hW 0).trans rfl; go_simp
   refine tgH 11 (.int .i64 (L.length : Int)) hs0 ?_
   refine tgH 12 (.bool false) hs0 ?_
   refine tgH 13 (.bool false) hs0 ?_
   refine wpAnyH_done (by kernel_rfl) ?_ _
   try simp only [zp, zn, zu, zv, zw]
   by_cases hr6 : r < 6
   ·
    have HK := Lh (show r ≠ 0 → i < L.length from fun _ => HLt.out)
    clear hrI HLt hs0 q5 HE
    obtain h0 | h0 | h0 | h0 | h0 | h0 : r = 0 ∨ r = 1 ∨ r = 2 ∨ r = 3 ∨ r = 4 ∨ r = 5 := by omega
    ·
     subst h0
     clear hr6
     clear HK HR
     obtain ⟨nb, hnb⟩ : ∃ n, n = wdr.heap.size := ⟨_, rfl⟩
     have HNq := Lh hnb.symm
     obtain ⟨w3, hw3⟩ : ∃ w3, w3 = wdr.alloc (.cells #[.int .i64 0, .int .i64 1, .int .i64 2, .int .i64 7, .int .i64 10, .int .i64 999] 3) := ⟨_, rfl⟩
     have l3 : Below wdr.heap.size wdr w3 := by rw [hw3]; exact (Below.refl _ _).alloc (Nat.le_refl _) _
     have X3 := Lh (show Blk w3 nb 3 [.int .i64 0, .int .i64 1, .int .i64 2, .int .i64 7, .int .i64 10, .int .i64 999] by rw [hw3, hnb]; exact Blk.new wdr _ _)
     have W3 := Lh hw3
     have HGn := Lh (show nb ≠ g by have := M2.out.lt; omega)
     have HT2 := Lh (take_any (M2.out.below l3) (by have := HI.out; omega) 6 (by omega) (by omega))
     have Z3 := Lh (Z2.out.below l3 Z2.out.lt)
     have K3 := Lh (K2.out.trans (Kp.of_below' (Z := fun k => k = g) l3) (fun _ _ h => h))
     have bsq : ∀ W : World, (Instr.buildSlice 22 6 #[(0, .int .i64 0), (1, .int .i64 1), (2, .int .i64 2), (3, .int .i64 7), (4, .int .i64 10), (5, .int .i64 999)]).run Tryd.prog W = .ok (.slice (some ⟨W.heap.size, 0, none⟩) 6 6) (W.alloc (.cells #[.int .i64 0, .int .i64 1, .int .i64 2, .int .i64 7, .int .i64 10, .int .i64 999] 3)) := fun _ => by kernel_rfl
     clear hnb hw3 l3 Z2 K2 M2
     go_wp2_with fail
     rw [HNq.out, ← W3.out]
     refine HT2.out.mono ?_
     rintro e w4 ⟨r2, hr2, hr2f, rfl, m4, k4⟩
     obtain ⟨z, hz⟩ : ∃ z, numL[r2]? = some z := ⟨_, List.getElem?_eq_getElem (show r2 < numL.length from hr2)⟩
     have cz : w4.cell? ⟨nb, r2, none⟩ = some (iv z) := by
      refine ((k4.blk X3.out HGn.out).cell r2).trans ?_
      show (numL.map (fun z => iv z))[r2]? = _
      rw [List.getElem?_map, hz]; rfl
     have M4 := Lh m4
     have Z4 := Lh (k4.blk Z3.out (by have := HG.out; omega))
     have K4 := Lh (K3.out.trans k4 (fun _ _ h => h))
     have HZb := Lh (num_ok z (List.mem_of_getElem? hz))
     have HX := Lh (show L.length ≤ i + 1 → z = 0 from fun e => by have := hr2f.none e; subst this; injection hz with hz; exact hz.symm)
     have hr2I : (r2 : Int) < 6 := by omega
     clear hr2 hr2f m4 k4 hz X3 W3 HT2 bsq Z3 K3
     go_wp2_with (first | (with_reducible refine wpList_store_blk rfl 25 4 size25 (.tmp 4) (.tmp 34) rfl wb [.int .i64 32, .string ⟨#[]⟩, .int .i64 z, .slice none 0 0] rfl rfl _ Z4.out rfl rfl rfl ?_; intro w8 hb8 hk8))
     exact bodyPost_ret (v := .agg (NC 32 [] z (.slice none 0 0)).toArray) (box_res 4 size25 rfl _ _ wb (NC 32 [] z (.slice none 0 0)) _ rfl hb8 rfl Tryd.underlying25 rfl) rfl ⟨.mk 32 [] z [], i + 2, _, rfl, xg_num HZb.out.1 HZb.out.2 HX.out, M4.out.kp hk8 (fun j e => by have := HG.out; omega), NV.leaf (fine_small (by omega) (by omega) (by have := HZb.out; omega) (by have := HZb.out; omega) (by simp)), K4.out.trans hk8 (fun k hk e => by have := HWB.out; omega), by have h1 := hk8.size; have h2 := Z4.out.lt; have h3 := HWB.out; omega⟩
    ·
     subst h0
     clear hr6
     clear HK HR
     obtain ⟨nb, hnb⟩ : ∃ n, n = wdr.heap.size := ⟨_, rfl⟩
     have HNq := Lh hnb.symm
     obtain ⟨w3, hw3⟩ : ∃ w3, w3 = wdr.alloc (.cells #[.int .i64 0, .int .i64 1, .int .i64 2, .int .i64 7, .int .i64 10, .int .i64 999] 3) := ⟨_, rfl⟩
     have l3 : Below wdr.heap.size wdr w3 := by rw [hw3]; exact (Below.refl _ _).alloc (Nat.le_refl _) _
     have X3 := Lh (show Blk w3 nb 3 [.int .i64 0, .int .i64 1, .int .i64 2, .int .i64 7, .int .i64 10, .int .i64 999] by rw [hw3, hnb]; exact Blk.new wdr _ _)
     have W3 := Lh hw3
     have HGn := Lh (show nb ≠ g by have := M2.out.lt; omega)
     have HT2 := Lh (take_any (M2.out.below l3) (by have := HI.out; omega) 6 (by omega) (by omega))
     have Z3 := Lh (Z2.out.below l3 Z2.out.lt)
     have K3 := Lh (K2.out.trans (Kp.of_below' (Z := fun k => k = g) l3) (fun _ _ h => h))
     have bsq : ∀ W : World, (Instr.buildSlice 22 6 #[(0, .int .i64 0), (1, .int .i64 1), (2, .int .i64 2), (3, .int .i64 7), (4, .int .i64 10), (5, .int .i64 999)]).run Tryd.prog W = .ok (.slice (some ⟨W.heap.size, 0, none⟩) 6 6) (W.alloc (.cells #[.int .i64 0, .int .i64 1, .int .i64 2, .int .i64 7, .int .i64 10, .int .i64 999] 3)) := fun _ => by kernel_rfl
     clear hnb hw3 l3 Z2 K2 M2
     go_wp2_with fail
     rw [HNq.out, ← W3.out]
     refine HT2.out.mono ?_
     rintro e w4 ⟨r2, hr2, hr2f, rfl, m4, k4⟩
     obtain ⟨z, hz⟩ : ∃ z, numL[r2]? = some z := ⟨_, List.getElem?_eq_getElem (show r2 < numL.length from hr2)⟩
     have cz : w4.cell? ⟨nb, r2, none⟩ = some (iv z) := by
      refine ((k4.blk X3.out HGn.out).cell r2).trans ?_
      show (numL.map (fun z => iv z))[r2]? = _
      rw [List.getElem?_map, hz]; rfl
     have M4 := Lh m4
     have Z4 := Lh (k4.blk Z3.out (by have := HG.out; omega))
     have K4 := Lh (K3.out.trans k4 (fun _ _ h => h))
     have HZb := Lh (num_ok z (List.mem_of_getElem? hz))
     have HX := Lh (show L.length ≤ i + 1 → z = 0 from fun e => by have := hr2f.none e; subst this; injection hz with hz; exact hz.symm)
     have hr2I : (r2 : Int) < 6 := by omega
     clear hr2 hr2f m4 k4 hz X3 W3 HT2 bsq Z3 K3
     go_wp2_with (first | (with_reducible refine wpList_store_blk rfl 25 4 size25 (.tmp 4) (.tmp 34) rfl wb [.int .i64 32, .string ⟨#[]⟩, .int .i64 z, .slice none 0 0] rfl rfl _ Z4.out rfl rfl rfl ?_; intro w8 hb8 hk8))
     exact bodyPost_ret (v := .agg (NC 32 [] z (.slice none 0 0)).toArray) (box_res 4 size25 rfl _ _ wb (NC 32 [] z (.slice none 0 0)) _ rfl hb8 rfl Tryd.underlying25 rfl) rfl ⟨.mk 32 [] z [], i + 2, _, rfl, xg_num HZb.out.1 HZb.out.2 HX.out, M4.out.kp hk8 (fun j e => by have := HG.out; omega), NV.leaf (fine_small (by omega) (by omega) (by have := HZb.out; omega) (by have := HZb.out; omega) (by simp)), K4.out.trans hk8 (fun k hk e => by have := HWB.out; omega), by have h1 := hk8.size; have h2 := Z4.out.lt; have h3 := HWB.out; omega⟩
    ·
     subst h0
     clear hr6
     have HLt := Lh (HK.out (by decide))
     clear HK HR
     have HC := Lh (own_any M2.out (by have := HI.out; omega))
     clear M2
     go_wp2_with fail
     refine HC.out.mono ?_
     rintro e w4 ⟨t, rfl, ht, hta, m4, k4⟩
     have M4 := Lh m4
     have Z4 := Lh (k4.blk Z2.out (by have := HG.out; omega))
     have K4 := Lh (K2.out.trans k4 (fun _ _ h => h))
     have HTt := Lh (And.intro ht hta)
     have htl : t.length ≤ 16 := (own_ok t ht).2
     clear m4 k4 ht hta HC Z2 K2
     go_wp2_with (first | (with_reducible refine wpList_store_blk rfl 25 4 size25 (.tmp 4) (.tmp 39) rfl wb [.int .i64 33, sv t, .int .i64 0, .slice none 0 0] rfl rfl _ Z4.out rfl rfl rfl ?_; intro w8 hb8 hk8))
     exact bodyPost_ret (v := .agg (NC 33 t 0 (.slice none 0 0)).toArray) (box_res 4 size25 rfl _ _ wb (NC 33 t 0 (.slice none 0 0)) _ rfl hb8 rfl Tryd.underlying25 rfl) rfl ⟨.mk 33 t 0 [], i + 2, _, rfl, xg_local HTt.out.1 HLt.out HTt.out.2, M4.out.kp hk8 (fun j e => by have := HG.out; omega), NV.leaf (fine_small (by omega) (by omega) (by omega) (by omega) (by omega)), K4.out.trans hk8 (fun k hk e => by have := HWB.out; omega), by have h1 := hk8.size; have h2 := Z4.out.lt; have h3 := HWB.out; omega⟩
    ·
     subst h0
     clear hr6
     have HLt := Lh (HK.out (by decide))
     clear HK HR
     have HC := Lh (gat_any M2.out (by have := HI.out; omega))
     clear M2
     go_wp2_with fail
     refine HC.out.mono ?_
     rintro e w4 ⟨n4, j4, cs4, rfl, hf, m4, v4, k4, s4⟩
     obtain ⟨nk, nt, nz, nl⟩ := n4
     obtain ⟨A4, c4, ys4, hcs, _⟩ := v4.form
     subst hcs
     have M4 := Lh m4
     have Z4 := Lh (k4.blk Z2.out (by have := HG.out; omega))
     have K4 := Lh (K2.out.trans k4 (fun _ _ h => h))
     have V4 := Lh (NV.keep (P' := fun k => wb < k) (fun k h1 h2 => ⟨rfl, by have := Z2.out.lt; omega⟩) _ _ v4)
     have HF := Lh hf
     clear m4 k4 hf v4 s4 HC Z2 K2
     dsimp only [NC]
     go_wp2_with (first | (with_reducible refine wpList_store_blk rfl 25 4 size25 (.tmp 4) (.tmp 44) rfl wb [iv nk, sv nt, iv nz, .slice A4 nl.length c4] rfl rfl _ Z4.out rfl rfl rfl ?_; intro w8 hb8 hk8))
     exact bodyPost_ret (v := .agg (NC nk nt nz (.slice A4 nl.length c4)).toArray) (box_res 4 size25 rfl _ _ wb (NC nk nt nz (.slice A4 nl.length c4)) _ rfl hb8 rfl Tryd.underlying25 rfl) rfl ⟨.mk nk nt nz nl, j4, _, rfl, xg_at HF.out HLt.out, M4.out.kp hk8 (fun j e => by have := HG.out; omega), NV.keep (fun k h1 h2 => ⟨rfl, by have h3 := HWB.out; omega⟩) _ _ (hk8.nv V4.out (fun k hk _ e => by omega)), K4.out.trans hk8 (fun k hk e => by have := HWB.out; omega), by have h1 := hk8.size; have h2 := Z4.out.lt; have h3 := HWB.out; omega⟩
    ·
     subst h0
     clear hr6
     have HLt := Lh (HK.out (by decide))
     clear HK HR
     have HC := Lh (gat_any M2.out (by have := HI.out; omega))
     clear M2
     go_wp2_with fail
     refine HC.out.mono ?_
     rintro e w4 ⟨n4, j4, cs4, rfl, hf, m4, v4, k4, s4⟩
     obtain ⟨nk, nt, nz, nl⟩ := n4
     obtain ⟨A4, c4, ys4, hcs, _⟩ := v4.form
     subst hcs
     have M4 := Lh m4
     have Z4 := Lh (k4.blk Z2.out (by have := HG.out; omega))
     have K4 := Lh (K2.out.trans k4 (fun _ _ h => h))
     have V4 := Lh (NV.keep (P' := fun k => wb < k) (fun k h1 h2 => ⟨rfl, by have := Z2.out.lt; omega⟩) _ _ v4)
     have HF := Lh hf
     clear m4 k4 hf v4 s4 HC Z2 K2
     dsimp only [NC]
     go_wp2_with (first | (with_reducible refine wpList_store_blk rfl 25 4 size25 (.tmp 4) (.tmp 44) rfl wb [iv nk, sv nt, iv nz, .slice A4 nl.length c4] rfl rfl _ Z4.out rfl rfl rfl ?_; intro w8 hb8 hk8))
     exact bodyPost_ret (v := .agg (NC nk nt nz (.slice A4 nl.length c4)).toArray) (box_res 4 size25 rfl _ _ wb (NC nk nt nz (.slice A4 nl.length c4)) _ rfl hb8 rfl Tryd.underlying25 rfl) rfl ⟨.mk nk nt nz nl, j4, _, rfl, xg_at HF.out HLt.out, M4.out.kp hk8 (fun j e => by have := HG.out; omega), NV.keep (fun k h1 h2 => ⟨rfl, by have h3 := HWB.out; omega⟩) _ _ (hk8.nv V4.out (fun k hk _ e => by omega)), K4.out.trans hk8 (fun k hk e => by have := HWB.out; omega), by have h1 := hk8.size; have h2 := Z4.out.lt; have h3 := HWB.out; omega⟩
    ·
     subst h0
     clear hr6
     have HLt := Lh (HK.out (by decide))
     clear HK HR
     go_wp2_with (first | (with_reducible refine wpList_store_blk rfl 25 4 size25 (.tmp 4) (.tmp 47) rfl wb [.int .i64 36, .string ⟨#[]⟩, .int .i64 0, .slice none 0 0] rfl rfl _ Z2.out rfl rfl rfl ?_; intro w8 hb8 hk8))
     exact bodyPost_ret (v := .agg (NC 36 [] 0 (.slice none 0 0)).toArray) (box_res 4 size25 rfl _ _ wb (NC 36 [] 0 (.slice none 0 0)) _ rfl hb8 rfl Tryd.underlying25 rfl) rfl ⟨.mk 36 [] 0 [], i + 1, _, rfl, xg_kind HLt.out, M2.out.kp hk8 (fun j e => by have := HG.out; omega), NV.leaf (fine_small (by omega) (by omega) (by omega) (by omega) (by simp)), K2.out.trans hk8 (fun k hk e => by have := HWB.out; omega), by have h1 := hk8.size; have h2 := Z2.out.lt; have h3 := HWB.out; omega⟩
   ·
    clear hs0
    have HKv := Lh (show Kv d = 1 + 2 * Kv e0 by rw [HE.out]; rfl)
    have HC := Lh (HIH.out e0 HE.out _ _ M2.out (by have h1 := HI.out.2.1; have h2 := HKv.out; omega))
    obtain ⟨kk, hkk⟩ : ∃ k, k = 20 + r := ⟨_, rfl⟩
    have hk1 : (kk : Int) ≤ 20 + (r : Int) := by omega
    have hk2 : 20 + (r : Int) ≤ (kk : Int) := by omega
    have HKK := Lh (show 26 ≤ kk ∧ kk ≤ 31 by omega)
    have q6 : IntKind.i64.wrap (26 + (r : Int)) = 26 + (r : Int) := IntWalk.i64_in _ (by omega)
    have q7 : IntKind.i64.wrap (26 + (r : Int) - 6) = (kk : Int) := by rw [show 26 + (r : Int) - 6 = (kk : Int) by omega]; exact IntWalk.i64_in _ (by omega)
    clear hkk
    have ez0 : ((r : Int) == 0) = false := by rw [beq_eq_false_iff_ne]; omega
    have ez1 : ((r : Int) == 1) = false := by rw [beq_eq_false_iff_ne]; omega
    have ez2 : ((r : Int) == 2) = false := by rw [beq_eq_false_iff_ne]; omega
    have ez3 : ((r : Int) == 3) = false := by rw [beq_eq_false_iff_ne]; omega
    have ez4 : ((r : Int) == 4) = false := by rw [beq_eq_false_iff_ne]; omega
    have ez5 : ((r : Int) == 5) = false := by rw [beq_eq_false_iff_ne]; omega
    clear M2 hr6
    go_wp2_with fail
    refine HC.out.mono ?_
    rintro e w5 ⟨na, ja, csa, rfl, fa, ma, va, ka, sa⟩
    have HC2 := Lh (fun W (hW : MS g W (.slice A L.length c) L ja) => HIH.out e0 HE.out W ja hW (by have h1 := HI.out.2.1; have h2 := HKv.out; have h3 := fa.hi; omega))
    have HXG : Hid (∀ n j, XG L.length ja e0 n j → XG L.length i d (.mk (kk : Int) [] 0 [na, n]) j) := Lh (fun n j hx => by rw [HE.out]; exact xg_op HKK.out.1 HKK.out.2 HLt.out fa hx)
    obtain ⟨ak, at', az, al⟩ := na
    obtain ⟨A1, c1, ys1, hcs, _⟩ := va.form
    subst hcs
    have M5 := Lh ma
    have Z5 := Lh (ka.blk Z2.out (by have := HG.out; omega))
    have K5 := Lh (K2.out.trans ka (fun _ _ h => h))
    have V5 := Lh (NV.keep (P' := fun k => wb < k) (fun k h1 h2 => ⟨rfl, by have := Z2.out.lt; omega⟩) _ _ va)
    clear ma ka va sa fa HC Z2 K2
    dsimp only [NC]
    go_upto_region 16 with fail
    obtain ⟨ab, hab⟩ : ∃ g, w5.heap.size = g := ⟨_, rfl⟩
    obtain ⟨w6, hw6⟩ : ∃ w6, w5.alloc (.cells #[.int .i64 ak, .string ⟨at'.toArray⟩, .int .i64 az, .slice A1 al.length c1] 25) = w6 := ⟨_, rfl⟩
    have l6 : Below w5.heap.size w5 w6 := by rw [← hw6]; exact (Below.refl _ _).alloc (Nat.le_refl _) _
    have Y6 := Lh (show Blk w6 ab 25 [iv ak, sv at', iv az, .slice A1 al.length c1] by rw [← hw6, ← hab]; exact Blk.new w5 _ _)
    have M6 := Lh (M5.out.below l6)
    have Z6 := Lh (Z5.out.below l6 Z5.out.lt)
    have K6 := Lh (K5.out.trans (Kp.of_below' (Z := fun _ => False) l6) (fun _ _ h => h.elim))
    have V6 := Lh ((Kp.of_below' (Z := fun _ => False) l6).nv V5.out (fun _ _ _ h => h))
    have HWa := Lh (show wb < ab by have := Z5.out.lt; omega)
    rw [hab, hw6]
    clear l6 hw6 hab M5 Z5 K5 V5
    refine wp_region_any (by kernel_rfl) ?_
    change wpAny _ _ _ _ _ _ _ (World.drew w6)
    have Yd := Lh (Y6.out.drew)
    have Md := Lh (M6.out.below ((Below.refl _ _).drew))
    have Zd := Lh (Z6.out.drew)
    have Kd := Lh (K6.out.trans (Kp.drew (fun _ => False) w6) (fun _ _ h => h.elim))
    have Vd := Lh ((Kp.drew (fun _ => False) w6).nv V6.out (fun _ _ _ h => h))
    generalize World.drew w6 = wd at Yd Md Zd Kd Vd ⊢
    have HC2 := Lh (HC2.out _ Md.out)
    have HAB := Lh (And.intro HWa.out Yd.out.lt)
    clear Y6 M6 Z6 K6 V6 HWa
    refine tg 0 (nv r) ?_
    refine tg 1 (.int .i64 (26 + (r : Int))) ?_
    refine tg 2 (nv kk) ?_
    refine tg 4 (pt g) ?_
    refine tg 5 (nv d) ?_
    refine tg 6 (nv e0) ?_
    refine rm [3, 7] (ac (fun K hK => ?_) (ac (fun K hK => ?_) AllReady.nil))
    ·
     refine wp_load_at 25 (.tmp 6) rfl ⟨ab, 0, none⟩ rfl [iv ak, sv at', iv az, .slice A1 al.length c1] _ Yd.out.at Tryd.underlying25 rfl size25 (hK _ _ ?_)
     clear hK K
     try simp only [zp, zn, zu, zv, zw]
     refine r1 7 (fun K hK => ?_)
     go_simp
     refine HC2.out.mono ?_
     rintro e w7 ⟨nb', jb, csb, rfl, fb, mb, vb, kb, sb⟩
     obtain ⟨bk, bt, bz, bl⟩ := nb'
     obtain ⟨A2, c2, ys2, hcs2, _⟩ := vb.form
     subst hcs2
     have Y7 := Lh (kb.blk Yd.out (by have := HAB.out; have := HG.out; omega))
     have Z7 := Lh (kb.blk Zd.out (by have := HG.out; omega))
     have M7 := Lh mb
     have K7 := Lh (Kd.out.trans kb (fun _ _ h => h))
     have VA7 := Lh (kb.nv Vd.out (fun k hk _ e => by have := HG.out; omega))
     have VB7 := Lh (NV.keep (P' := fun k => wb < k) (fun k h1 h2 => ⟨rfl, by have := HAB.out; omega⟩) _ _ vb)
     have F7 := Lh fb
     have S7 := Lh (show ab < w7.heap.size by have := HAB.out; omega)
     clear fb mb vb kb sb HC2
     dsimp only [NC]
     go_wp2_with fail
     try (refine hk hK ?_; clear hK K)
     refine r1 8 (fun K hK => ?_)
     refine wp_bs (vs := #[(0, .agg #[.int .i64 ak, .string ⟨at'.toArray⟩, .int .i64 az, .slice A1 al.length c1]), (1, .agg #[.int .i64 bk, .string ⟨bt.toArray⟩, .int .i64 bz, .slice A2 bl.length c2])]) rfl (by simp [Act.eval]) (bs2 _ _ _ _ _ _ _ _ _ _ _ _ _) ?_
     obtain ⟨w8', hw8⟩ : ∃ w', w7.alloc (.cells #[.int .i64 ak, .string ⟨at'.toArray⟩, .int .i64 az, .slice A1 al.length c1, .int .i64 bk, .string ⟨bt.toArray⟩, .int .i64 bz, .slice A2 bl.length c2] 25) = w' := ⟨_, rfl⟩
     obtain ⟨gz, hgz⟩ : ∃ z, w7.heap.size = z := ⟨_, rfl⟩
     have l8 : Below w7.heap.size w7 w8' := by rw [← hw8]; exact (Below.refl _ _).alloc (Nat.le_refl _) _
     have X8 := Lh (show Blk w8' gz 25 (NC ak at' az (.slice A1 al.length c1) ++ NC bk bt bz (.slice A2 bl.length c2)) by rw [← hw8, ← hgz]; exact Blk.new _ _ _)
     have Z8 := Lh (Z7.out.below l8 Z7.out.lt)
     have M8 := Lh (M7.out.below l8)
     have K8 := Lh (K7.out.trans (Kp.of_below' (Z := fun _ => False) l8) (fun _ _ h => h.elim))
     have V8 := Lh (nl_two ((Kp.of_below' (Z := fun _ => False) l8).nv VA7.out (fun _ _ _ h => h)) ((Kp.of_below' (Z := fun _ => False) l8).nv VB7.out (fun _ _ _ h => h)))
     have HGZ := Lh (show wb < gz by have := S7.out; have := HAB.out; omega)
     rw [hw8, hgz]
     clear l8 hw8 hgz Z7 M7 K7 VA7 VB7 Y7
     try (refine hk hK ?_; clear hK K)
     refine tg 9 (.agg #[nv kk, .string ⟨#[]⟩, .int .i64 0, .slice (some ⟨gz, 0, none⟩) 2 2]) ?_
     refine r1 10 (fun K hK => ?_)
     refine wp_store_row 25 (.tmp 4) (.tmp 61) rfl wb #[nv kk, .string ⟨#[]⟩, .int .i64 0, .slice (some ⟨gz, 0, none⟩) 2 2] rfl rfl _ _ Z8.out (by rw [size25]; rfl) rfl (by simp [Value.oneCell']) (hK _ _ ?_)
     clear hK K
     have hb8 := Lh (Blk.row Z8.out [nv kk, .string ⟨#[]⟩, .int .i64 0, .slice (some ⟨gz, 0, none⟩) 2 2])
     have hk8 := Lh (Blk.kpRow (w := w8') (g := wb) #[nv kk, .string ⟨#[]⟩, .int .i64 0, .slice (some ⟨gz, 0, none⟩) 2 2])
     change Hid (Blk (w8'.setRow wb #[nv kk, .string ⟨#[]⟩, .int .i64 0, .slice (some ⟨gz, 0, none⟩) 2 2]) wb _ _) at hb8
     generalize w8'.setRow wb #[nv kk, .string ⟨#[]⟩, .int .i64 0, .slice (some ⟨gz, 0, none⟩) 2 2] = w9 at hb8 hk8 ⊢
     try (refine hk hK ?_; clear hK K)
     refine wpAny_done (by kernel_rfl) ?_ _
     try simp only [zp, zn, zu, zv, zw]
     go_wp2_with fail
     exact bodyPost_ret (v := .agg (NC (kk : Int) [] 0 (.slice (some ⟨gz, 0, none⟩) 2 2)).toArray) (box_res 4 size25 rfl _ _ wb (NC (kk : Int) [] 0 (.slice (some ⟨gz, 0, none⟩) 2 2)) _ rfl hb8.out rfl Tryd.underlying25 rfl) rfl ⟨.mk (kk : Int) [] 0 [.mk ak at' az al, .mk bk bt bz bl], jb, _, rfl, HXG.out _ _ F7.out, M8.out.kp hk8.out (fun j e => by have := HG.out; omega), nv_built (hk8.out.blk X8.out (by have := HGZ.out; omega)) (by have h1 := HGZ.out; have h2 := HWB.out; omega) (NL.keep (fun k h1 h2 => ⟨hk8.out.block k h2 (fun e => by omega), by have h3 := HWB.out; omega⟩) _ _ V8.out) (fine_small (by omega) (by have := HKK.out; omega) (by omega) (by omega) (by simp)) (by simp), K8.out.trans hk8.out (fun k hk e => by have := HWB.out; omega), by have h1 := hk8.out.size; have h2 := Z8.out.lt; have h3 := HWB.out; omega⟩
    ·
     go_simp
     refine HC2.out.mono ?_
     rintro e w7 ⟨nb', jb, csb, rfl, fb, mb, vb, kb, sb⟩
     obtain ⟨bk, bt, bz, bl⟩ := nb'
     obtain ⟨A2, c2, ys2, hcs2, _⟩ := vb.form
     subst hcs2
     have Y7 := Lh (kb.blk Yd.out (by have := HAB.out; have := HG.out; omega))
     have Z7 := Lh (kb.blk Zd.out (by have := HG.out; omega))
     have M7 := Lh mb
     have K7 := Lh (Kd.out.trans kb (fun _ _ h => h))
     have VA7 := Lh (kb.nv Vd.out (fun k hk _ e => by have := HG.out; omega))
     have VB7 := Lh (NV.keep (P' := fun k => wb < k) (fun k h1 h2 => ⟨rfl, by have := HAB.out; omega⟩) _ _ vb)
     have F7 := Lh fb
     have S7 := Lh (show ab < w7.heap.size by have := HAB.out; omega)
     clear fb mb vb kb sb HC2
     dsimp only [NC]
     go_wp2_with fail
     try (refine hk hK ?_; clear hK K)
     refine r1 3 (fun K hK => ?_)
     refine wp_load_at 25 (.tmp 6) rfl ⟨ab, 0, none⟩ rfl [iv ak, sv at', iv az, .slice A1 al.length c1] _ Y7.out.at Tryd.underlying25 rfl size25 (hK _ _ ?_)
     clear hK K
     try simp only [zp, zn, zu, zv, zw]
     refine r1 8 (fun K hK => ?_)
     refine wp_bs (vs := #[(0, .agg #[.int .i64 ak, .string ⟨at'.toArray⟩, .int .i64 az, .slice A1 al.length c1]), (1, .agg #[.int .i64 bk, .string ⟨bt.toArray⟩, .int .i64 bz, .slice A2 bl.length c2])]) rfl (by simp [Act.eval]) (bs2 _ _ _ _ _ _ _ _ _ _ _ _ _) ?_
     obtain ⟨w8', hw8⟩ : ∃ w', w7.alloc (.cells #[.int .i64 ak, .string ⟨at'.toArray⟩, .int .i64 az, .slice A1 al.length c1, .int .i64 bk, .string ⟨bt.toArray⟩, .int .i64 bz, .slice A2 bl.length c2] 25) = w' := ⟨_, rfl⟩
     obtain ⟨gz, hgz⟩ : ∃ z, w7.heap.size = z := ⟨_, rfl⟩
     have l8 : Below w7.heap.size w7 w8' := by rw [← hw8]; exact (Below.refl _ _).alloc (Nat.le_refl _) _
     have X8 := Lh (show Blk w8' gz 25 (NC ak at' az (.slice A1 al.length c1) ++ NC bk bt bz (.slice A2 bl.length c2)) by rw [← hw8, ← hgz]; exact Blk.new _ _ _)
     have Z8 := Lh (Z7.out.below l8 Z7.out.lt)
     have M8 := Lh (M7.out.below l8)
     have K8 := Lh (K7.out.trans (Kp.of_below' (Z := fun _ => False) l8) (fun _ _ h => h.elim))
     have V8 := Lh (nl_two ((Kp.of_below' (Z := fun _ => False) l8).nv VA7.out (fun _ _ _ h => h)) ((Kp.of_below' (Z := fun _ => False) l8).nv VB7.out (fun _ _ _ h => h)))
     have HGZ := Lh (show wb < gz by have := S7.out; have := HAB.out; omega)
     rw [hw8, hgz]
     clear l8 hw8 hgz Z7 M7 K7 VA7 VB7 Y7
     try (refine hk hK ?_; clear hK K)
     refine tg 9 (.agg #[nv kk, .string ⟨#[]⟩, .int .i64 0, .slice (some ⟨gz, 0, none⟩) 2 2]) ?_
     refine r1 10 (fun K hK => ?_)
     refine wp_store_row 25 (.tmp 4) (.tmp 61) rfl wb #[nv kk, .string ⟨#[]⟩, .int .i64 0, .slice (some ⟨gz, 0, none⟩) 2 2] rfl rfl _ _ Z8.out (by rw [size25]; rfl) rfl (by simp [Value.oneCell']) (hK _ _ ?_)
     clear hK K
     have hb8 := Lh (Blk.row Z8.out [nv kk, .string ⟨#[]⟩, .int .i64 0, .slice (some ⟨gz, 0, none⟩) 2 2])
     have hk8 := Lh (Blk.kpRow (w := w8') (g := wb) #[nv kk, .string ⟨#[]⟩, .int .i64 0, .slice (some ⟨gz, 0, none⟩) 2 2])
     change Hid (Blk (w8'.setRow wb #[nv kk, .string ⟨#[]⟩, .int .i64 0, .slice (some ⟨gz, 0, none⟩) 2 2]) wb _ _) at hb8
     generalize w8'.setRow wb #[nv kk, .string ⟨#[]⟩, .int .i64 0, .slice (some ⟨gz, 0, none⟩) 2 2] = w9 at hb8 hk8 ⊢
     try (refine hk hK ?_; clear hK K)
     refine wpAny_done (by kernel_rfl) ?_ _
     try simp only [zp, zn, zu, zv, zw]
     go_wp2_with fail
     exact bodyPost_ret (v := .agg (NC (kk : Int) [] 0 (.slice (some ⟨gz, 0, none⟩) 2 2)).toArray) (box_res 4 size25 rfl _ _ wb (NC (kk : Int) [] 0 (.slice (some ⟨gz, 0, none⟩) 2 2)) _ rfl hb8.out rfl Tryd.underlying25 rfl) rfl ⟨.mk (kk : Int) [] 0 [.mk ak at' az al, .mk bk bt bz bl], jb, _, rfl, HXG.out _ _ F7.out, M8.out.kp hk8.out (fun j e => by have := HG.out; omega), nv_built (hk8.out.blk X8.out (by have := HGZ.out; omega)) (by have h1 := HGZ.out; have h2 := HWB.out; omega) (NL.keep (fun k h1 h2 => ⟨hk8.out.block k h2 (fun e => by omega), by have h3 := HWB.out; omega⟩) _ _ V8.out) (fine_small (by omega) (by have := HKK.out; omega) (by omega) (by omega) (by simp)) (by simp), K8.out.trans hk8.out (fun k hk e => by have := HWB.out; omega), by have h1 := hk8.out.size; have h2 := Z8.out.lt; have h3 := HWB.out; omega⟩
theorem value_any : ∀ (d : Nat), d ≤ 3 → ∀ {i : Nat} {w : World}, MS g w v L i → i + Kv d ≤ 10000000 → Calls Tryd.prog 28 #[pt g, nv d] w (GOut g w v L (XG L.length i d))
 | 0, hd, i, w, h, hi => value_step 0 hd (Lh (fun e he => by omega)) h hi
 | d + 1, hd, i, w, h, hi => value_step (d + 1) hd (Lh (fun e he W i hW hi => by
   obtain rfl : d = e := by omega
   exact value_any d (by omega) hW hi)) h hi
end
end Go.Proofs.YtpbhgebblpdmnaaDoor
