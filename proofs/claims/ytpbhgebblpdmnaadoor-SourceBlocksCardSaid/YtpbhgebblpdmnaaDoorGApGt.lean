/-
  Contracts and words of several parts of the program (Ap, Gt), one after the other.
  Conditions: those that each says.
-/
import Derived.Test.YtpbhgebblpdmnaaDoorGHdFuLvGa
import Derived.Test.YtpbhgebblpdmnaaDoorGRnPlPnPq
import Derived.Test.YtpbhgebblpdmnaaDoorGPsPu
import Derived.Laws.OwnMore
import Derived.Test.YtpbhgebblpdmnaaDoorZ
namespace Go.Proofs.YtpbhgebblpdmnaaDoor
open Go.RowKit Wr Src
set_option linter.unusedVariables false
set_option maxRecDepth 100000
section
variable {P : Program}
theorem run_append_zero (w : World) (base : Nat) (t ty e : TypeId) (i : TypeInfo) (size : Nat) (ht : P.underlying t = some (.slice e)) (hi : P.info? e = some i)
  (v : Value) (n : Nat) (xs : List Value) (hown : w.ownsRow base e size v n xs) (A : Option Addr) (c : Nat) (hA : A = none → c = 0) :
  (Builtin.append_ #[t, t] ty #[v, .slice A 0 c]).run P w = .ok v w := by
 cases A with
 | none =>
  have := hA rfl
  subst this
  exact run_append_owned_none w base t ty e i size ht hi v n xs hown
 | some ad =>
  rcases hown.2 with ⟨rfl, rfl⟩ | ⟨g, cap, cur, rfl, _, _, hnc, _⟩
  ·
   simp [Builtin.append_, run_underlying ht, sizeOf, typeInfo, hi, Builtin.lenOf, Builtin.firstCells, loadCells, loadCellsFrom, storeCells]
  ·
   simp [Builtin.append_, run_underlying ht, sizeOf, typeInfo, hi, Builtin.lenOf, Builtin.firstCells, hnc, loadCells, loadCellsFrom, storeCells]
theorem wp_append_rd {w : World} {o : Oper} {a : Act} {K : Act → World → Prop} {Q : Exit → Act → World → Prop} (s x : Operand) (t : TypeId)
  (ho : o.op = .call { callee := .builtin .append, args := #[s, x], argTypes := #[t, t] })
  (base : Nat) (e : TypeId) (i : TypeInfo) (z : Value) (size bytes : Nat) (ht : P.underlying t = some (.slice e)) (hi : P.info? e = some i) (hz : i.zero = some z)
  (hsize : i.size = size) (hby : i.bytes = bytes) (hzs : z.cells.size = size) (hsz : 0 < size)
  (v : Value) (n : Nat) (xs : List Value) (hs : a.eval s = v) (hown : w.ownsRow base e size v n xs)
  (A : Option Addr) (m c : Nat) (news : List Value) (hx : a.eval x = .slice A m c) (hA : A = none → c = 0) (hmc : m ≤ c) (hl : news.length = m * size) (hr : RdP w Any A news) (h1 : ∀ u ∈ news, u.oneCell' = true)
  (h63 : n + m ≤ maxLen) (hbytes : (n + m) * bytes ≤ 140737488355328) (hbase : base ≤ w.heap.size)
  (h : ∀ v' w', w'.ownsRow base e size v' (n + m) (xs ++ news) → w.grownBy w' v.ownBlock → (v'.ownBlock = v.ownBlock ∨ v'.ownBlock = some w.heap.size) → K (a.put o.dst v') w') : o.wp P a w K Q := by
 rcases Nat.eq_zero_or_pos m with rfl | hm
 ·
  have hn : news = [] := List.eq_nil_of_length_eq_zero (by simpa using hl)
  subst hn
  have hrun := run_append_zero (P := P) w base t o.type e i size ht hi v n xs hown A c hA
  unfold Oper.wp
  simp [execOp, ho, resolve, invoke, builtin, hs, hx, hrun, Result.andThen]
  exact h v w (by simpa using hown) (World.grownBy.refl _ _) (Or.inl rfl)
 ·
  have hne : news ≠ [] := by
   intro e
   rw [e] at hl
   have : 0 < m * size := Nat.mul_pos hm hsz
   simp at hl; omega
  obtain ⟨g, off, rfl, _, hcell⟩ := hr hne
  exact wp_append_lies w s x t ho base e i z size bytes ht hi hz hsize hby hzs hsz v n xs hs hown ⟨g, off, none⟩ m c news hx hl (fun j u hu => by rw [Addr.add_lit]; exact hcell j u hu) h1 hm h63 hbytes hbase _ rfl (fun g' cap w' q1 q2 q3 _ => h _ w' q1 q2 (q3.imp (fun e => e.symm) (fun e => by rw [e]; rfl)))
end
theorem info3 : (Tryd.prog.info? 3).map (fun i => (i.zero, i.size, i.bytes)) = some (some (.int .i64 0), 1, 8) := by kernel_rfl
theorem info_parts3 : ∃ i, Tryd.prog.info? 3 = some i ∧ i.zero = some (.int .i64 0) ∧ i.size = 1 ∧ i.bytes = 8 := by
 have h := info3
 cases hq : Tryd.prog.info? 3 with
 | none => rw [hq] at h; cases h
 | some i =>
  rw [hq] at h
  simp only [Option.map_some, Option.some.injEq, Prod.mk.injEq] at h
  exact ⟨i, rfl, h.1, h.2.1, h.2.2⟩
theorem wpList_append_ints {w : World} {ops : Array Oper} {rest : List Oper} {o : Oper} {a : Act} {Q : Exit → Act → World → Prop} (hgd : o.guard = none) (s x : Operand)
  (ho : o.op = .call { callee := .builtin .append, args := #[s, x], argTypes := #[22, 22] }) (z : Int) (hz : I64 z) (g : Nat) (hs : a.eval s = .slice (some ⟨g, 0, none⟩) 1 1) (hb : Blk w g 3 [.int .i64 z])
  (v : Value) (L : List Int) (hx : a.eval x = v) (hv : IL w Any v L) (hn : ∀ A n c, v = .slice A n c → A = none → c = 0) (hL : L.length + 1 ≤ 17592186044416)
  (h : ∀ v' w', IL w' Any v' (z :: L) → w.grownBy w' (some g) → wpList Tryd.prog ops Q rest (a.put o.dst v') w') : wpList Tryd.prog ops Q (o :: rest) a w := by
 obtain ⟨⟨A, c, rfl, hmc, hr⟩, hI, _⟩ := hv
 obtain ⟨i0, hi0, hz0, hz1, hz2⟩ := info_parts3
 have hown : w.ownsRow g 3 1 (.slice (some ⟨g, 0, none⟩) 1 1) 1 [.int .i64 z] := ⟨rfl, Or.inr ⟨g, 1, #[.int .i64 z], rfl, Nat.le_refl _, hb, Nat.le_refl _, by unfold maxLen; omega, rfl, rfl⟩⟩
 refine wpList_plain hgd fun K hK => wp_append_rd s x 22 ho g 3 i0 (.int .i64 0) 1 8 Tryd.underlying22 hi0 hz0 hz1 hz2 rfl (by decide) _ 1 _ hs hown A L.length c (L.map (fun z => iv z)) hx (hn A _ c rfl) hmc (by simp) hr (fun u hu => by obtain ⟨y, _, rfl⟩ := List.mem_map.1 hu; rfl) (by unfold maxLen; omega) (by omega) (Nat.le_of_lt hb.lt) (fun v' w' h1 h2 _ => hK _ _ (h v' w' ?_ h2))
 refine ⟨?_, fun y hy => by rcases List.mem_cons.1 hy with rfl | hy; exact hz; exact hI y hy, by simp; omega⟩
 rcases h1.2 with ⟨_, q⟩ | ⟨g', cap, cur, rfl, _, q3, q4, _, q6, q7⟩
 ·
  omega
 ·
  refine ⟨some ⟨g', 0, none⟩, cap, by rw [List.length_cons, Nat.add_comm], by rw [List.length_cons]; omega, fun _ => ⟨g', 0, rfl, trivial, fun j u hu => ?_⟩⟩
  rw [Nat.zero_add]
  refine (cell_of_row w' g' j cur _ (0, 0) q3).trans ?_
  have e1 : (z :: L).map (fun z => iv z) = cur.toList.take ((1 + L.length) * 1) := q7.symm
  rw [e1, List.getElem?_take] at hu
  split at hu
  ·
   rw [← Array.getElem?_toList]; exact hu
  ·
   cases hu
theorem own_nv {w : World} {P : Nat → Prop} {base n : Nat} {v : Value} {l : List Nd} {xs : List Value} {k z : Int} {t : Str} (h : w.ownsRow base 25 4 v n xs) (hP : ∀ g, v.ownBlock = some g → P g) (hl : NL w P l xs) (hn : l.length ≤ 8589934592) (hf : Fine k t z) : ∃ A c, v = .slice A l.length c ∧ NV w P (.mk k t z l) (NC k t z (.slice A l.length c)) := by
 have hlen := NL.len _ _ hl
 have hx := h.1
 have hnl : n = l.length := by omega
 subst hnl
 rcases h.2 with ⟨rfl, e⟩ | ⟨g, cap, cur, rfl, _, q3, q4, _, q6, q7⟩
 ·
  have : l = [] := List.eq_nil_of_length_eq_zero e
  subst this
  exact ⟨none, 0, rfl, NV.leaf hf⟩
 ·
  refine ⟨some ⟨g, 0, none⟩, cap, rfl, NV.intro hf hn q4 (fun e => by cases e) (xs := xs) (fun _ => ⟨g, 0, rfl, hP g rfl, fun j u hu => ?_⟩) hl⟩
  rw [Nat.zero_add]
  refine (cell_of_row w g j cur _ (0, 0) q3).trans ?_
  rw [← q7, List.getElem?_take] at hu
  split at hu
  ·
   rw [← Array.getElem?_toList]; exact hu
  ·
   cases hu
theorem own_slice {w : World} {base e size n : Nat} {v : Value} {xs : List Value} (h : w.ownsRow base e size v n xs) : ∃ A c, v = .slice A n c := by
 rcases h.2 with ⟨rfl, rfl⟩ | ⟨g, cap, cur, rfl, _⟩
 ·
  exact ⟨none, 0, rfl⟩
 ·
  exact ⟨_, _, rfl⟩
theorem bs0 (W : World) : (Instr.buildSlice 23 0 #[]).run Tryd.prog W = .ok (.slice (some ⟨W.heap.size, 0, none⟩) 0 0) (W.alloc (.cells #[] 25)) := by kernel_rfl
theorem own_zero {w : World} {g base : Nat} (h : Blk w g 25 []) (hb : base ≤ g) : w.ownsRow base 25 4 (.slice (some ⟨g, 0, none⟩) 0 0) 0 [] := ⟨rfl, Or.inr ⟨g, 0, #[], rfl, hb, h, Nat.le_refl _, by unfold maxLen; omega, rfl, rfl⟩⟩
theorem kid_of {w : World} {k : Int} {t : Str} {l : List Nd} {A : Option Addr} {c : Nat} (h : NV w Any (.mk k t 0 [.mk 8 [] 0 l]) (NC k t 0 (.slice A 1 c))) : ∃ g o D d xs, A = some ⟨g, o, none⟩ ∧ 1 ≤ c ∧ g < w.heap.size ∧ w.cell? ⟨g, o + 3, none⟩ = some (.slice D l.length d) ∧ l.length ≤ d ∧ (D = none → d = 0) ∧ RdP w Any D xs ∧ NL w Any l xs := by
 obtain ⟨A', c', xs, e, _, _, hc, _, hr, hl⟩ := h.form
 injection e with _ e; injection e with _ e; injection e with _ e; injection e with e _
 injection e with e1 e2 e3
 subst e1 e3
 obtain ⟨a, b, rfl, hv, _⟩ := hl.inv
 obtain ⟨D, d, ys, rfl, _, _, hd, hD, hr4, hl4⟩ := hv.form
 obtain ⟨g, o, rfl, _, hcell⟩ := hr (by simp [NC])
 have h3 := hcell 3 _ rfl
 exact ⟨g, o, D, d, ys, rfl, hc, World.block_lt_of_cell? w _ h3, h3, hd, hD, hr4, hl4⟩
theorem both_nv {w wd : World} {bs n7 n : Nat} {v : Value} {l1 l2 : List Nd} {xs1 xs2 : List Value} (h : w.ownsRow bs 25 4 v n (([] ++ xs1) ++ xs2)) (hnn : n = l1.length + l2.length) (hE : ∀ g, v.ownBlock = some g → g ≠ n7) (hn : bs ≤ n7) (hb : wd.heap.size ≤ bs) (hs : Below bs wd w) (r1 : NL wd Any l1 xs1) (r2 : NL wd Any l2 xs2) (h1 : l1.length ≤ 1000) (h2 : l2.length ≤ 1000) :
  ∃ A c, v = .slice A n c ∧ NV w (fun k => k ≠ n7) (.mk 8 [] 0 (l1 ++ l2)) (NC 8 [] 0 (.slice A n c)) := by
 have hk : ∀ g, Any g → g < wd.heap.size → w.heap[g]? = wd.heap[g]? ∧ g ≠ n7 := fun g _ hg => ⟨hs.block g (by omega), by omega⟩
 obtain ⟨A, c, e, hv⟩ := own_nv (P := fun k => k ≠ n7) (l := l1 ++ l2) (k := 8) (t := []) (z := 0) h hE (NL.app l1 l2 _ _ (NL.keep hk _ _ r1) (NL.keep hk _ _ r2)) (by rw [List.length_append]; omega) (fine_small (by omega) (by omega) (by omega) (by omega) (by simp))
 have e2 : (l1 ++ l2).length = n := by rw [List.length_append]; omega
 rw [e2] at e hv
 exact ⟨A, c, e, hv⟩
end Go.Proofs.YtpbhgebblpdmnaaDoor
namespace Go.Proofs.YtpbhgebblpdmnaaDoor
open Go.RowKit Wr Src
set_option linter.unusedVariables false
set_option maxRecDepth 100000
structure MS (g : Nat) (w : World) (v : Value) (L : List Int) (i : Nat) : Prop where
 b : Blk w g 41 [v, nv i]
 l : IL w (fun j => j < g) v L
theorem MS.lt {g : Nat} {w : World} {v : Value} {L : List Int} {i : Nat} (h : MS g w v L i) : g < w.heap.size := h.b.lt
theorem MS.below {g : Nat} {w w' : World} {v : Value} {L : List Int} {i : Nat} (h : MS g w v L i) (b : Below w.heap.size w w') : MS g w' v L i :=
 ⟨h.b.below b h.b.lt, h.l.kp (Kp.of_below' (Z := fun _ => False) b) (fun _ _ e => e)⟩
set_option maxHeartbeats 4000000 in
theorem take_any {g i : Nat} {w : World} {v : Value} {L : List Int} (h : MS g w v L i) (hi : i ≤ 100000000) (m : Nat) (h0 : 0 < m) (h1 : m ≤ 1000000) : Calls Tryd.prog 13 #[pt g, nv m] w fun en w' => ∃ r : Nat, r < m ∧ TkF L i m r ∧ en = .returned (nv r) ∧ MS g w' v L (i + 1) ∧ Kp (fun k => k = g) w w' := by
 obtain ⟨⟨A, c, hv, hc, hr⟩, hz, hn⟩ := h.l
 obtain ⟨n, hN⟩ : ∃ n, n = L.length := ⟨_, rfl⟩
 have HNn := Lh hN
 have HL := Lh h.l
 have HB := Lh h.b
 subst hv
 rw [← hN] at HB HL
 have c0 := HB.out.cell 0; have c1 := HB.out.cell 1; have f1 := HB.out.frozen 1
 simp only [List.getElem?_cons_zero, List.getElem?_cons_succ] at c0 c1
 have q1 : IntKind.i64.wrap ((i : Int) + 1) = (i : Int) + 1 := IntWalk.i64_in _ (by omega)
 have q2 : IntKind.i64.wrap ((i : Int) + 1 - 1) = (i : Int) := by rw [show (i : Int) + 1 - 1 = (i : Int) by omega]; exact IntWalk.i64_in _ (by omega)
 have q3 : IntKind.i64.wrap (i : Int) = (i : Int) := IntWalk.i64_in _ (by omega)
 have HP := Lh (And.intro hi (And.intro h0 h1))
 obtain ⟨w1, hw1⟩ : ∃ w1, w1 = w.setCell ⟨g, 1, none⟩ (.int .i64 ((i : Int) + 1)) := ⟨_, rfl⟩
 have W1 := Lh hw1
 have K1 := Lh (show Kp (fun k => k = g) w w1 by rw [hw1]; exact Kp.setCell (Z := fun k => k = g) _ ⟨g, 1, none⟩ _ rfl)
 have B1 := Lh (show Blk w1 g 41 [.slice A n c, nv (i + 1)] by rw [hw1]; exact HB.out.put 1 _)
 have L1 := Lh (HL.out.kp K1.out (fun j hj e => by omega))
 clear hz hn hr h hN hw1 h0 h1 hi
 go_enter Tryd.func13, Tryd.ntmps13
 go_upto_region 2 with fail
 rw [← W1.out]
 clear c0 c1 f1
 refine wp_region_any (by kernel_rfl) ?_
 change wpAny _ _ _ _ _ _ _ (World.drew w1)
 have HKp := Lh (K1.out.trans (Kp.drew (fun _ => False) w1) (fun _ _ h => h.elim))
 have BD := Lh (B1.out.drew)
 have LD := Lh (L1.out.kp (Kp.drew (fun _ => False) w1) (fun _ _ h => h))
 have HMS := Lh (show MS g (World.drew w1) (.slice A L.length c) L (i + 1) by rw [← HNn.out]; exact ⟨BD.out, LD.out⟩)
 have HA := Lh (at_any LD.out i (by have := HP.out.1; omega) m HP.out.2.1 HP.out.2.2)
 generalize World.drew w1 = wdr at HKp BD LD HMS HA ⊢
 have c0 := BD.out.cell 0; have c1 := BD.out.cell 1
 simp only [List.getElem?_cons_zero, List.getElem?_cons_succ] at c0 c1
 change wdr.cell? ⟨g, 1, none⟩ = some (.int .i64 ((i : Int) + 1)) at c1
 refine tg 0 (pt g) ?_
 refine tg 1 (pt g) ?_
 refine tg 2 (.pointer (some ⟨g, 0, none⟩)) ?_
 refine tg 4 (pt g) ?_
 refine tg 5 (pt g) ?_
 refine tg 6 (.pointer (some ⟨g, 1, none⟩)) ?_
 refine tg 9 (nv m) ?_
 refine rm [3, 7] (ac (fun K hK => ?_) (ac (fun K hK => ?_) AllReady.nil))
 ·
  go_simp
  try (refine hk hK ?_; clear hK K)
  refine r1 7 (fun K hK => ?_)
  go_simp
  try (refine hk hK ?_; clear hK K)
  refine tg 8 (.int .i64 (i : Int)) ?_
  refine r1 10 (fun K hK => ?_)
  go_simp
  refine HA.out.mono ?_
  rintro e w5 ⟨r, hr, hr0, rfl, rfl⟩
  have HR := Lh (And.intro hr hr0)
  clear hr hr0
  go_wp2_with fail
  try (refine hk hK ?_; clear hK K)
  refine tg 11 (nv r) ?_
  refine wpAny_done (by kernel_rfl) ?_ _
  try simp only [zp, zn, zu, zv, zw]
  go_wp2_with fail
  exact bodyPost_ret (v := nv r) (by simp [results]) rfl ⟨r, HR.out.1, HR.out.2, rfl, HMS.out, HKp.out⟩
 ·
  go_simp
  try (refine hk hK ?_; clear hK K)
  refine tg 8 (.int .i64 (i : Int)) ?_
  refine r1 3 (fun K hK => ?_)
  go_simp
  try (refine hk hK ?_; clear hK K)
  refine r1 10 (fun K hK => ?_)
  go_simp
  refine HA.out.mono ?_
  rintro e w5 ⟨r, hr, hr0, rfl, rfl⟩
  have HR := Lh (And.intro hr hr0)
  clear hr hr0
  go_wp2_with fail
  try (refine hk hK ?_; clear hK K)
  refine tg 11 (nv r) ?_
  refine wpAny_done (by kernel_rfl) ?_ _
  try simp only [zp, zn, zu, zv, zw]
  go_wp2_with fail
  exact bodyPost_ret (v := nv r) (by simp [results]) rfl ⟨r, HR.out.1, HR.out.2, rfl, HMS.out, HKp.out⟩
end Go.Proofs.YtpbhgebblpdmnaaDoor
