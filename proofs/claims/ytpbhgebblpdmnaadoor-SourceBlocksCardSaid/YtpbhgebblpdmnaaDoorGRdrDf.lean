/-
  Contracts and words of several parts of the program (Rdr, Df), one after the other.
  Conditions: those that each says.
-/
import Derived.Test.YtpbhgebblpdmnaaDoorZ
import Derived.Test.YtpbhgebblpdmnaaDoorFc
import Derived.Test.YtpbhgebblpdmnaaDoorPtE
import Derived.Test.YtpbhgebblpdmnaaDoorPtB
import Derived.Test.YtpbhgebblpdmnaaDoorPtL
import Derived.Test.YtpbhgebblpdmnaaDoorPtP
import Derived.Test.YtpbhgebblpdmnaaDoorPtO
import Derived.Test.YtpbhgebblpdmnaaDoorPtI
import Derived.Test.YtpbhgebblpdmnaaDoorPtS
namespace Go.Proofs.YtpbhgebblpdmnaaDoor
open Go.RowKit Wr Src
set_option linter.unusedVariables false
set_option maxRecDepth 100000
def NodeC (B g : Nat) (T : Str) (E kd u : Nat) : Prop := ∀ W s, RS B W g T E s → mu s ≤ u → Calls Tryd.prog 39 #[pt g, nv kd] W (RdOut B W g T E (fun n s' => Ev (fun k => Src.node k kd s) (n, s') ∧ mu s' ≤ mu s - 1))
def ExprC (B g : Nat) (T : Str) (E : Nat) (f : FuncId) (lv u : Nat) : Prop := ∀ W s, RS B W g T E s → mu s ≤ u → Calls Tryd.prog f #[pt g] W (RdOut B W g T E (fun n s' => Ev (fun k => ops k lv s) (n, s') ∧ mu s' ≤ mu s))
theorem RdOut.mono {B : Nat} {w : World} {g : Nat} {T : Str} {E : Nat} {F G : Nd → St → Prop} {en : Ending} {w' : World} (h : RdOut B w g T E F en w') (hf : ∀ n s, F n s → G n s) : RdOut B w g T E G en w' := by
 obtain ⟨n, s', cs, h1, h2, h3⟩ := h
 exact ⟨n, s', cs, h1, hf _ _ h2, h3⟩
theorem PtOut.mono {B : Nat} {w : World} {g : Nat} {T : Str} {E nb kd : Nat} {c : UInt8} {m : Nd} {s : St} {u u' : Nat} {en : Ending} {w' : World} (h : PtOut B w g T E nb kd c m s u en w') (hu : u' ≤ u) : PtOut B w g T E nb kd c m s u' en w' := by
 obtain ⟨m', s', h1, h2, h3, h4, h5, h6, h7⟩ := h
 exact ⟨m', s', h1, h2, h3, h4, h5, by omega, h7⟩
theorem first_part : ∀ k, k < 37 → (Src.shape k).word = [] → ∀ c, (Src.shape k).parts.head? = some c → c ∉ ([69, 66, 76, 79, 73, 83] : Str) := by
 have h : ∀ k, k < 37 → ((Src.shape k).word ≠ [] ∨ ((Src.shape k).parts.head?.all (fun c => !([69, 66, 76, 79, 73, 83] : Str).contains c)) = true) := by decide
 intro k hk hw c hc hm
 rcases h k hk with h1 | h1
 ·
  exact h1 hw
 ·
  rw [hc] at h1
  simp only [Option.all_some, Bool.not_eq_true'] at h1
  rw [List.contains_iff_mem.2 hm] at h1
  cases h1
theorem u0_zero {kd i : Nat} {c : UInt8} (hk : kd < 37) (hc : (Src.shape kd).parts[i]? = some c) (hm : c ∈ ([69, 66, 76, 79, 73, 83] : Str)) : u0 kd i = 0 := by
 refine if_neg ?_
 rintro ⟨rfl, hw⟩
 exact first_part kd hk hw c (by rw [List.head?_eq_getElem?]; exact hc) hm
theorem shape_high : ∀ k, k < 37 → (Src.shape k).high ≤ 1000 := by decide
theorem u0_le (kd i : Nat) : u0 kd i ≤ 1 := by unfold u0; split <;> omega
section
variable {B g : Nat} {T : Str} {E : Nat}
theorem node_of (kd u : Nat) (hkd : kd < 37) (hne : (Src.shape kd).word ≠ [] ∨ (Src.shape kd).parts ≠ [])
  (hE : (69 : UInt8) ∈ (Src.shape kd).parts → ExprC B g T E 62 1 u) (hB : (66 : UInt8) ∈ (Src.shape kd).parts ∨ (79 : UInt8) ∈ (Src.shape kd).parts → NodeC B g T E 8 u)
  (hL : (76 : UInt8) ∈ (Src.shape kd).parts → NodeC B g T E 33 u) (hI : (73 : UInt8) ∈ (Src.shape kd).parts → NodeC B g T E 7 u)
  (hS : (83 : UInt8) ∈ (Src.shape kd).parts → ∀ kd' u', 9 ≤ kd' → kd' ≤ 25 → u' < u → NodeC B g T E kd' u') : NodeC B g T E kd u := by
 intro W s h hu
 refine node_walk h kd hkd hne (Lh fun i c hc W1 s1 m nb h1 hp hgn hml hmu => ?_)
 have hmem : c ∈ (Src.shape kd).parts := List.mem_of_getElem? hc
 have hlen : (Src.shape kd).parts.length ≤ 100 := Nat.le_trans (shape_len kd hkd) (by omega)
 have hu1 : mu s1 ≤ mu s := by have := u0_le kd i; omega
 have hul := u0_le kd i
 have hml1 : m.kids.length + 1 ≤ 8589934592 := by omega
 by_cases c1 : c = 110
 ·
  subst c1; exact (part_n h1 hp hgn _ _ kd i hc hlen).mono fun _ _ h => h.mono hul
 by_cases c2 : c = 108
 ·
  subst c2; exact (part_l h1 hp hgn _ _ kd i hc hlen).mono fun _ _ h => h.mono hul
 by_cases c3 : c = 100
 ·
  subst c3; exact (part_d h1 hp hgn _ _ kd i hc hlen (shape_high kd hkd)).mono fun _ _ h => h.mono hul
 by_cases c4 : c = 122
 ·
  subst c4; exact (part_z h1 hp hgn _ _ kd i hc hlen (shape_high kd hkd)).mono fun _ _ h => h.mono hul
 by_cases c5 : c = 69
 ·
  subst c5
  rw [u0_zero hkd hc (by decide)]
  exact part_E h1 hp hml1 hgn _ _ kd i hc hlen (Lh fun W2 h2 => hE hmem W2 s1 h2 (by omega))
 by_cases c6 : c = 66
 ·
  subst c6
  rw [u0_zero hkd hc (by decide)]
  exact part_B h1 hp hml1 hgn _ _ kd i hc hlen (Lh fun W2 h2 => (hB (Or.inl hmem) W2 s1 h2 (by omega)).mono fun _ _ h => h.mono fun _ _ ⟨a, b⟩ => ⟨a, by omega⟩)
 by_cases c7 : c = 76
 ·
  subst c7
  rw [u0_zero hkd hc (by decide)]
  exact part_L h1 hp hml1 hgn _ _ kd i hc hlen (Lh fun W2 h2 => (hL hmem W2 s1 h2 (by omega)).mono fun _ _ h => h.mono fun _ _ ⟨a, b⟩ => ⟨a, by omega⟩)
 by_cases c8 : c = 80
 ·
  subst c8
  refine (part_P h1 hp hml1 hgn _ _ kd i hc hlen (Lh fun W2 h2 => (place_any h2).mono fun _ _ h => h.mono fun n s' e => ⟨e, by have := mu_place s1; rw [← e] at this; exact Nat.le_trans this (Nat.sub_le _ _)⟩)).mono fun _ _ h => ?_
  obtain ⟨m', s', a1, a2, a3, a4, a5, a6, a7⟩ := h
  have := ev_uniq a2 pe_place
  injection this with e1 e2
  exact ⟨m', s', a1, a2, a3, a4, a5, by have := mu_place s1; rw [← e2] at this; omega, a7⟩
 by_cases c9 : c = 79
 ·
  subst c9
  rw [u0_zero hkd hc (by decide)]
  refine part_O h1 hp hml1 hgn _ _ kd i hc hlen (Lh fun W2 h2 => ?_)
  have hadv : mu s1.adv ≤ mu s1 := by
   unfold mu St.adv
   split
   ·
    simp
   ·
    exact Nat.le_refl _
  exact (hB (Or.inr hmem) W2 s1.adv h2 (by omega)).mono fun _ _ h => h.mono fun _ _ ⟨a, b⟩ => ⟨a, by omega⟩
 by_cases c10 : c = 73
 ·
  subst c10
  rw [u0_zero hkd hc (by decide)]
  exact part_I h1 hp (by omega) hgn _ _ kd i hc hlen (Lh fun W2 s2 h2 hm2 _ _ => hI hmem W2 s2 h2 (by omega))
 by_cases c11 : c = 83
 ·
  subst c11
  have hu0 := u0_zero hkd hc (by decide)
  rw [hu0]
  refine part_S h1 hp (by omega) hgn _ _ kd i hc hlen (Lh fun W2 s2 h2 hm2 hp2 hst => ?_)
  have hk : 9 ≤ s2.stmtHere ∧ s2.stmtHere ≤ 25 := (stmt_kind s2).resolve_left hst
  have e : iv s2.stmtHere = nv s2.stmtHere.toNat := by
   show Value.int .i64 _ = Value.int .i64 _
   congr 1; omega
  rw [e]
  exact hS hmem s2.stmtHere.toNat (mu s2) (by omega) (by omega) (by rw [hu0] at hmu; omega) W2 s2 h2 (Nat.le_refl _)
 refine (part_sign h1 hp hgn _ _ kd i c ?_ hc hlen).mono fun _ _ h => h.mono hul
 unfold partBytes
 simp only [List.mem_cons, List.not_mem_nil, or_false, not_or]
 exact ⟨c1, c2, c3, c4, c5, c6, c7, c8, c9, c10, c11⟩
theorem reads_all (u : Nat) : (∀ kd, kd < 37 → ((Src.shape kd).word ≠ [] ∨ (Src.shape kd).parts ≠ []) → NodeC B g T E kd u) ∧ ExprC B g T E 62 1 u := by
 induction u using Nat.strongRecOn with
 | ind u ih =>
  have hleaf : ∀ kd, kd = 7 ∨ kd = 32 ∨ kd = 33 ∨ kd = 36 → NodeC B g T E kd u := by
   rintro kd (rfl | rfl | rfl | rfl)
   ·
    exact node_of 7 u (by omega) (by decide) (fun h => absurd h (by decide)) (fun h => absurd h (by decide)) (fun h => absurd h (by decide)) (fun h => absurd h (by decide)) (fun h => absurd h (by decide))
   ·
    exact node_of 32 u (by omega) (by decide) (fun h => absurd h (by decide)) (fun h => absurd h (by decide)) (fun h => absurd h (by decide)) (fun h => absurd h (by decide)) (fun h => absurd h (by decide))
   ·
    exact node_of 33 u (by omega) (by decide) (fun h => absurd h (by decide)) (fun h => absurd h (by decide)) (fun h => absurd h (by decide)) (fun h => absurd h (by decide)) (fun h => absurd h (by decide))
   ·
    exact node_of 36 u (by omega) (by decide) (fun h => absurd h (by decide)) (fun h => absurd h (by decide)) (fun h => absurd h (by decide)) (fun h => absurd h (by decide)) (fun h => absurd h (by decide))
  have hfac : ExprC B g T E 84 4 u := fun W s h hu =>
   factor_walk h (Lh fun kd hk W2 h2 => hleaf kd (Or.inr hk) W2 s h2 hu) (Lh fun hp W2 h2 => by
    have h3 := mu_pos (s := s) (by rw [hp]; simp)
    have h4 := mu_adv (s := s) (by rw [hp]; simp)
    exact (ih (mu s.adv) (by omega)).2 W2 s.adv h2 (Nat.le_refl _))
  have hpro : ExprC B g T E 77 3 u := fun W s h hu => product_walk h (Lh fun W2 s2 h2 hm => hfac W2 s2 h2 (by omega))
  have hsum : ExprC B g T E 72 2 u := fun W s h hu => sum_walk h (Lh fun W2 s2 h2 hm => hpro W2 s2 h2 (by omega))
  have hexp : ExprC B g T E 62 1 u := fun W s h hu => expression_walk h (Lh fun W2 s2 h2 hm => hsum W2 s2 h2 (by omega))
  have hst : ∀ kd' u', 9 ≤ kd' → kd' ≤ 25 → u' < u → NodeC B g T E kd' u' := fun kd' u' h1 h2 h3 => (ih u' h3).1 kd' (by omega) (by
   have : ∀ k, k < 26 → 9 ≤ k → ((Src.shape k).word ≠ [] ∨ (Src.shape k).parts ≠ []) := by decide
   exact this kd' (by omega) h1)
  have hblk : NodeC B g T E 8 u := node_of 8 u (by omega) (by decide) (fun h => absurd h (by decide)) (fun h => absurd h (by decide)) (fun h => absurd h (by decide)) (fun h => absurd h (by decide)) (fun _ => hst)
  exact ⟨fun kd hk hne => node_of kd u hk hne (fun _ => hexp) (fun _ => hblk) (fun _ => hleaf 33 (by omega)) (fun _ => hleaf 7 (by omega)) (fun _ => hst), hexp⟩
theorem node_any {W : World} {s : St} (h : RS B W g T E s) (kd : Nat) (hkd : kd < 37) (hne : (Src.shape kd).word ≠ [] ∨ (Src.shape kd).parts ≠ []) : Calls Tryd.prog 39 #[pt g, nv kd] W (RdOut B W g T E (fun n s' => Ev (fun k => Src.node k kd s) (n, s') ∧ mu s' ≤ mu s - 1)) :=
 (reads_all (mu s)).1 kd hkd hne W s h (Nat.le_refl _)
end
end Go.Proofs.YtpbhgebblpdmnaaDoor
namespace Go.Proofs.YtpbhgebblpdmnaaDoor
open Go.RowKit Wr Src
set_option linter.unusedVariables false
set_option maxRecDepth 100000
theorem kind_range (s : St) (a b : Int) : s.kindHere a b = -1 ∨ (a ≤ s.kindHere a b ∧ s.kindHere a b ≤ b) := by
 unfold St.kindHere
 split
 ·
  split
  ·
   rename_i h; exact Or.inr ⟨h.2.1, h.2.2⟩
  ·
   exact Or.inl rfl
 ·
  exact Or.inl rfl
theorem zero_nv (w : World) (P : Nat → Prop) : NV w P Nd.zero (NC 0 [] 0 (.slice none 0 0)) := NV.leaf ⟨by omega, by omega, by omega, by omega, by simp⟩
section
variable {B : Nat} {w : World} {g : Nat} {T : Str} {E : Nat} {s : St}
set_option maxHeartbeats 4000000 in
theorem definition_any (h : RS B w g T E s) : Calls Tryd.prog 33 #[pt g] w (RdOut B w g T E (fun n s' => Ev (fun k => rdDef k s) (n, s'))) := by
 have z1 := zero25
 obtain ⟨wb, hwb⟩ : ∃ wb, wb = w.heap.size := ⟨_, rfl⟩
 have HWB := Lh hwb
 have HWb := Lh hwb.symm
 have hG' : Hid (g < wb) := Lh (by rw [hwb]; exact h.lt)
 obtain ⟨w0, hw0⟩ : ∃ w0, w0 = w.alloc (.cells #[.int .i64 0, .string ⟨#[]⟩, .int .i64 0, .slice none 0 0] 25) := ⟨_, rfl⟩
 have l0 : Below w.heap.size w w0 := by rw [hw0]; exact (Below.refl _ _).alloc (Nat.le_refl _) _
 have Z0 := Lh (show Blk w0 wb 25 [.int .i64 0, .string ⟨#[]⟩, .int .i64 0, .slice none 0 0] by rw [hw0, hwb]; exact Blk.new w _ _)
 have L0 := Lh l0
 have S0 := Lh (show w0.heap.size = wb + 1 by rw [hw0, hwb]; simp)
 have R0 := Lh (h.below l0)
 have W0 := Lh hw0
 have HK := Lh (kindHere_any R0.out 0 6)
 clear h hwb hw0 l0
 go_enter Tryd.func33, Tryd.ntmps33
 go_upto_region 1 with fail
 rw [← W0.out, HWb.out]
 have K0 := Lh (Kp.of_below' (Z := fun k => k = g) L0.out)
 go_wp2_with fail
 refine HK.out.mono ?_
 rintro e w1 ⟨rfl, k1⟩
 have Z1 := Lh (Z0.out.below k1 Z0.out.lt)
 have R1 := Lh (R0.out.below k1)
 have K1 := Lh (K0.out.trans (Kp.of_below' (Z := fun _ => False) k1) (fun _ _ h => h.elim))
 have S1 := Lh (show wb + 1 ≤ w1.heap.size by rw [← S0.out]; exact k1.size)
 clear k1 Z0 R0 K0 S0 HK
 by_cases hk : s.kindHere 0 6 = -1
 ·
  have HR := Lh (show Ev (fun k => rdDef k s) (.zero, s.fail 2) from Ev.of fun k => by unfold rdDef; rw [if_pos hk])
  rw [hk]
  clear hk
  have HF := Lh (fail_any R1.out 2 (by omega) (by omega))
  go_wp2_with fail
  refine HF.out.mono ?_
  rintro e w2 ⟨rfl, h2, k2⟩
  have Z2 := Lh (k2.blk Z1.out (by have := hG'.out; omega))
  have R2 := Lh h2
  have K2 := Lh (K1.out.trans k2 (fun _ _ h => h))
  clear h2 k2 HF
  go_wp2_with (first | (with_reducible refine wpList_store_blk rfl 25 4 size25 (.tmp 2) (.tmp 10) rfl wb [.int .i64 0, .string ⟨#[]⟩, .int .i64 0, .slice none 0 0] rfl rfl _ Z2.out rfl rfl rfl ?_; intro w8 hb8 hk8))
  refine bodyPost_ret (v := .agg (NC 0 [] 0 (.slice none 0 0)).toArray) (box_res 4 size25 rfl _ _ wb _ _ rfl hb8 rfl Tryd.underlying25 rfl) rfl ⟨.zero, s.fail 2, _, rfl, HR.out, R2.out.kp hk8 (by have := hG'.out; omega) (fun k hk => by have := R2.out.hg; have := hG'.out; omega), zero_nv _ _, K2.out.trans hk8 (fun k hk e => by have := HWB.out; omega)⟩
 ·
  obtain ⟨kd, hkd⟩ : ∃ kd : Nat, s.kindHere 0 6 = (kd : Int) := ⟨(s.kindHere 0 6).toNat, by have := kind_range s 0 6; omega⟩
  have h6 : kd < 7 := by have := kind_range s 0 6; omega
  have HR := Lh (show ∀ k, rdDef k s = node k kd s from fun k => by unfold rdDef; rw [if_neg hk, hkd]; rfl)
  rw [hkd]
  have hkI : (((kd : Nat) : Int) == -1) = false := by rw [beq_eq_false_iff_ne]; omega
  have HN := Lh (node_any R1.out kd (by omega) (by have : ∀ k, k < 7 → ((Src.shape k).word ≠ [] ∨ (Src.shape k).parts ≠ []) := (by decide); exact this kd h6))
  clear hk hkd h6
  go_wp2_with fail
  refine HN.out.mono ?_
  rintro e w5 ⟨n5, s5, cs5, rfl, ⟨f1, f2⟩, h5, hv5, k5⟩
  obtain ⟨nk, nt, nz, nl⟩ := n5
  obtain ⟨A1, c1, ys1, hcs, _⟩ := hv5.form
  subst hcs
  have Z5 := Lh (k5.blk Z1.out (by have := hG'.out; omega))
  have V5 := Lh hv5; have R5 := Lh h5; have K5 := Lh (K1.out.trans k5 (fun _ _ h => h))
  have F5 := Lh (Ev.eq f1 (fun k => HR.out k))
  clear f1 f2 h5 hv5 k5
  dsimp only [NC]
  go_wp2_with (first | (with_reducible refine wpList_store_blk rfl 25 4 size25 (.tmp 2) (.tmp 13) rfl wb [iv nk, sv nt, iv nz, .slice A1 nl.length c1] rfl rfl _ Z5.out rfl rfl rfl ?_; intro w8 hb8 hk8))
  refine bodyPost_ret (v := .agg (NC nk nt nz (.slice A1 nl.length c1)).toArray) (box_res 4 size25 rfl _ _ wb _ _ rfl hb8 rfl Tryd.underlying25 rfl) rfl ⟨_, s5, _, rfl, F5.out, R5.out.kp hk8 (by have := hG'.out; omega) (fun k hk => by have := R5.out.hg; have := hG'.out; omega), ?_, K5.out.trans hk8 (fun k hk e => by have := HWB.out; omega)⟩
  have hn := hk8.nv V5.out (fun k hk _ e => by have h1 := S1.out; omega)
  exact NV.keep (fun k h1 h2 => ⟨rfl, by have h3 := HWB.out; have h4 := S1.out; omega⟩) _ _ hn
end
end Go.Proofs.YtpbhgebblpdmnaaDoor
