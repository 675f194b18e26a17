/-
  Contracts and words of several parts of the program (RMath3, Coll, EncW, REncW), one after the other.
  Conditions: those that each says.
-/
import Derived.Test.YtofccgkgjcnfbaaDoorGen
import Derived.Test.YtofccgkgjcnfbaaDoorApis
import Derived.BigQuiet
import Derived.Test.YtofccgkgjcnfbaaDoorRTrees
import Derived.Test.YtofccgkgjcnfbaaDoorEqT
import Derived.Test.YtofccgkgjcnfbaaDoorRProve
import Derived.Test.YtofccgkgjcnfbaaDoorZ
import Derived.Test.YtofccgkgjcnfbaaDoorGW1RLenW1RGetW1RGetCodM
import Derived.Test.YtofccgkgjcnfbaaDoorBentM
set_option linter.unusedSimpArgs false
namespace Go.Proofs.YtofccgkgjcnfbaaDoor
open Go.RowKit Wr Sh
set_option linter.unusedVariables false
set_option maxRecDepth 100000
end Go.Proofs.YtofccgkgjcnfbaaDoor
namespace Go.Proofs.YtofccgkgjcnfbaaDoor
open Go.RowKit Wr Sh
set_option linter.unusedVariables false
set_option maxRecDepth 100000
def digB (t : ByteArray) : List UInt8 := (sha t.data.toList).take 16
def Clash (T : List ByteArray) : Prop := ∃ x ∈ T, ∃ y ∈ T, x ≠ y ∧ digB x = digB y
section
variable {L P : List Lf} {f : Nat} {S : List (List UInt8)}
def textsOf (L : List Lf) (f : Nat) (S : List (List UInt8)) (n : Nat) : List ByteArray := (rroot L f S RS.new n).2.texts
end
end Go.Proofs.YtofccgkgjcnfbaaDoor
namespace Go.Proofs.YtofccgkgjcnfbaaDoor
open Go.RowKit Wr Sh
set_option linter.unusedVariables false
set_option maxRecDepth 100000
theorem St_app (a b : List ByteArray) : St (a ++ b) = St a ++ St b := by simp [St]
theorem St_one (l : List ByteArray) : ∀ u ∈ St l, u.oneCell' = true := by
 intro u hu
 obtain ⟨_, _, rfl⟩ := List.mem_map.1 hu
 rfl
theorem wp_append_strs {w : World} {o : Oper} {a : Act} {K : Act → World → Prop} {Q : Exit → Act → World → Prop} (s x : Operand)
  (ho : o.op = .call { callee := .builtin .append, args := #[s, x], argTypes := #[47, 47] })
  (base : Nat) (v : Value) (n : Nat) (xs : List Value) (hs : a.eval s = v) (hown : w.ownsRow base 9 1 v n xs)
  (A : Option Addr) (m c B : Nat) (news : List ByteArray) (hx : a.eval x = .slice A m c) (hnil : A = none → c = 0) (hl : news.length = m) (hr : Rd w B A (St news))
  (hbytes : n + m ≤ 4294967296) (hbase : base ≤ w.heap.size)
  (h : ∀ v' w', w'.ownsRow base 9 1 v' (n + m) (xs ++ St news) → w.grownBy w' v.ownBlock → K (a.put o.dst v') w') : o.wp Tryd.prog a w K Q := by
 obtain ⟨i0, hi0, hz0, hz1, hz2⟩ := info_parts info9
 have hlen : (St news).length = m * 1 := by rw [Nat.mul_one, ← hl]; simp [St]
 by_cases hne : St news = []
 ·
  have hm : m = 0 := by rw [hne] at hlen; simp at hlen; omega
  subst hm
  cases A with
  | none =>
   have hc := hnil rfl
   subst hc
   refine Lib.wp_append_run w s x 47 47 ho v _ hs hx v w (run_append_owned_none w base 47 _ 9 i0 1 Tryd.underlying47 hi0 v n xs hown) (h v w ?_ (World.grownBy.refl _ _))
   rw [hne, List.append_nil, Nat.add_zero]; exact hown
  | some ad =>
   exact wp_append_own w s x 47 ho base 9 i0 (.string ⟨#[]⟩) 1 16 Tryd.underlying47 hi0 hz0 hz1 hz2 rfl (by decide) v n xs hs hown ad 0 c (St news) hx (by rw [hne]; rfl) (fun j u hu => by rw [hne] at hu; simp at hu) (St_one _) (by unfold maxLen; omega) (by omega) hbase (fun v' w' h1 h2 _ => h v' w' h1 h2)
 ·
  obtain ⟨g, off, rfl, hg, hcell⟩ := hr hne
  exact wp_append_own w s x 47 ho base 9 i0 (.string ⟨#[]⟩) 1 16 Tryd.underlying47 hi0 hz0 hz1 hz2 rfl (by decide) v n xs hs hown ⟨g, off, none⟩ m c (St news) hx hlen (fun j u hu => by rw [Addr.add_lit]; exact hcell j u hu) (St_one _) (by unfold maxLen; omega) (by omega) hbase (fun v' w' h1 h2 _ => h v' w' h1 h2)
def Calm (T : List ByteArray) (i k : Nat) : Prop := ∀ a b (ha : a < T.length) (hb : b < T.length), b < a → (a < i ∨ (a = i ∧ b < k)) → ¬ (T[a] ≠ T[b] ∧ digB T[a] = digB T[b])
end Go.Proofs.YtofccgkgjcnfbaaDoor
namespace Go.Proofs.YtofccgkgjcnfbaaDoor
open Go.RowKit Wr Sh
set_option linter.unusedVariables false
set_option maxRecDepth 100000
end Go.Proofs.YtofccgkgjcnfbaaDoor
namespace Go.Proofs.YtofccgkgjcnfbaaDoor
open Go.RowKit Wr Sh
set_option linter.unusedVariables false
set_option maxRecDepth 100000
theorem wpList_append_strs {w : World} {ops : Array Oper} {rest : List Oper} {o : Oper} {a : Act} {Q : Exit → Act → World → Prop} (hgd : o.guard = none) (s x : Operand)
  (ho : o.op = .call { callee := .builtin .append, args := #[s, x], argTypes := #[47, 47] })
  (base : Nat) (v : Value) (n : Nat) (xs : List Value) (hs : a.eval s = v) (hown : w.ownsRow base 9 1 v n xs)
  (A : Option Addr) (m c B : Nat) (news : List ByteArray) (hx : a.eval x = .slice A m c) (hnil : A = none → c = 0) (hl : news.length = m) (hr : Rd w B A (St news))
  (hbytes : n + m ≤ 4294967296) (hbase : base ≤ w.heap.size)
  (h : ∀ v' w', w'.ownsRow base 9 1 v' (n + m) (xs ++ St news) → w.grownBy w' v.ownBlock → wpList Tryd.prog ops Q rest (a.put o.dst v') w') : wpList Tryd.prog ops Q (o :: rest) a w :=
 wpList_plain hgd fun K hK => wp_append_strs s x ho base v n xs hs hown A m c B news hx hnil hl hr hbytes hbase (fun v' w' h1 h2 => hK _ _ (h v' w' h1 h2))
def lst (L : List Lf) : List ByteArray := L.flatMap fun x => [x.1, x.2]
theorem lst_cons (x : Lf) (L : List Lf) : lst (x :: L) = x.1 :: x.2 :: lst L := rfl
theorem lst_app (A B : List Lf) : lst (A ++ B) = lst A ++ lst B := by unfold lst; rw [List.flatMap_append]
theorem lst_len : ∀ L : List Lf, (lst L).length = 2 * L.length
 | [] => rfl
 | x :: L => by rw [lst_cons, List.length_cons, List.length_cons, lst_len L, List.length_cons]; omega
theorem lst_bs : ∀ L : List Lf, W1.bs (lst L) = ltx L
 | [] => rfl
 | x :: L => by rw [lst_cons, ltx_cons, ← lst_bs L]; rfl
theorem lst_mem {L : List Lf} {x : ByteArray} (h : x ∈ lst L) : ∃ y ∈ L, x = y.1 ∨ x = y.2 := by
 obtain ⟨y, hy, hx⟩ := List.mem_flatMap.1 h
 exact ⟨y, hy, by simpa using hx⟩
theorem take_lst (L : List Lf) (j : Nat) (h : j < L.length) : St (lst (L.take (j + 1))) = St (lst (L.take j)) ++ St [L[j].1, L[j].2] := by
 rw [List.take_succ_eq_append_getElem h, lst_app, St_app]; rfl
theorem strs_len : ∀ (l : List (List UInt8)) (M : Nat), (∀ x ∈ l, x.length ≤ M) → ((l.map encStr).flatten).length ≤ l.length * (M + 9)
 | [], M, _ => by simp
 | x :: l, M, h => by
  have h1 := h x (by simp)
  have h2 := strs_len l M (fun y hy => h y (by simp [hy]))
  have h3 := W1.encStr_le x
  rw [List.map_cons, List.flatten_cons, List.length_append, List.length_cons, Nat.succ_mul]; omega
theorem encStrs_len (l : List (List UInt8)) (M : Nat) (h : ∀ x ∈ l, x.length ≤ M) : (encStrs l).length ≤ 9 + l.length * (M + 9) := by
 have h1 := strs_len l M h
 have h2 := (enc_le (l.length : Int)).2
 unfold encStrs encList
 rw [List.length_append]; omega
theorem ltx_small {L : List Lf} {M : Nat} (h : ∀ x ∈ L, x.1.size ≤ M ∧ x.2.size ≤ M) : ∀ x ∈ ltx L, x.length ≤ M := by
 intro x hx
 unfold ltx at hx
 obtain ⟨y, hy, hxy⟩ := List.mem_flatMap.1 hx
 have := h y hy
 simp only [List.mem_cons, List.not_mem_nil, or_false] at hxy
 rcases hxy with rfl | rfl
 ·
  rw [size_len]; exact this.1
 ·
  rw [size_len]; exact this.2
theorem digs_len' (S : List (List UInt8)) (h : ∀ d ∈ S, d.length = 16) : (encDigs S).length ≤ 9 + S.length * 16 := by
 have h2 := (enc_le (S.length : Int)).2
 unfold encDigs encList
 rw [List.length_append, List.map_id', List.length_flatten, sum16 S h]; omega
theorem ints2_len (a b : Int) : (encInts [a, b]).length ≤ 27 := by
 have h0 := (enc_le (2 : Int)).2
 have h1 := (enc_le a).2
 have h2 := (enc_le b).2
 show (enc ([a, b].length : Int) ++ ([a, b].map enc).flatten).length ≤ 27
 rw [List.length_append]
 simp only [List.map_cons, List.map_nil, List.flatten_cons, List.flatten_nil, List.append_nil, List.length_append]
 have : ((([a, b] : List Int).length : Nat) : Int) = 2 := rfl
 rw [this]; omega
set_option maxHeartbeats 8000000 in
theorem encode_any (p : Pf) (A1 A2 : Option Addr) (n m c1 c2 : Nat) (w : World) (hn : n = p.leaves.length) (hm : m = p.sides.length) (hn4 : n ≤ 1000) (hm4 : m ≤ 1000) (hk : ∀ x ∈ p.leaves, x.1.size ≤ 1000 ∧ x.2.size ≤ 1000) (hp : PfAt w w.heap.size p A1 A2 c1 c2) :
  Calls Tryd.prog 35 #[.agg (PR p.first p.size (.slice A1 n c1) (.slice A2 m c2)).toArray] w fun e w' => ∃ v', e = .returned v' ∧ w'.ownsRow w.heap.size 5 1 v' (encP p).length (B8 (encP p)) ∧ Below w.heap.size w w' := by
 obtain ⟨f, sz, L, S⟩ := p
 dsimp only at hn hm hk ⊢
 obtain ⟨WB, hW1⟩ : ∃ W, W = w.alloc (.cells (PR f sz (.slice A1 n c1) (.slice A2 m c2)).toArray 50) := ⟨_, rfl⟩
 have hb1 : Below w.heap.size w WB := by rw [hW1]; exact (Below.refl _ _).alloc (Nat.le_refl _) _
 have HB1 := Lh hb1
 have P1 := Lh (show Blk WB w.heap.size 50 (PR f sz (.slice A1 n c1) (.slice A2 m c2)) by rw [hW1]; exact Blk.new w 50 _)
 have HW := Lh hW1
 have HP := Lh hp
 have HNL := Lh hn
 have HML := Lh hm
 have HK := Lh hk
 obtain ⟨E1, hE1⟩ : ∃ E, E = encInts [f, sz] := ⟨_, rfl⟩
 obtain ⟨E2, hE2⟩ : ∃ E, E = encStrs (ltx L) := ⟨_, rfl⟩
 obtain ⟨E3, hE3⟩ : ∃ E, E = encDigs S := ⟨_, rfl⟩
 obtain ⟨M1, hM1⟩ : ∃ n, n = E1.length := ⟨_, rfl⟩
 obtain ⟨M2, hM2⟩ : ∃ n, n = E2.length := ⟨_, rfl⟩
 obtain ⟨M3, hM3⟩ : ∃ n, n = E3.length := ⟨_, rfl⟩
 have b1 : M1 ≤ 27 := by rw [hM1, hE1]; exact ints2_len f sz
 have b2 : M2 ≤ 9 + 2 * n * 1009 := by
  have := encStrs_len (ltx L) 1000 (ltx_small hk)
  rw [← hE2, ← hM2, ltx_len, ← hn] at this; exact this
 have b3 : M3 ≤ 9 + m * 16 := by
  have := digs_len' S hp.oks.2
  rw [← hE3, ← hM3, ← hm] at this; exact this
 have HEE := Lh (show encP ⟨f, sz, L, S⟩ = E1 ++ (E2 ++ E3) by rw [hE1, hE2, hE3]; rfl)
 have HC1 := Lh (fun (W : World) (A : Option Addr) (hr : Rd W W.heap.size A [.int .i64 f, .int .i64 sz]) => show Calls Tryd.prog 40 #[.slice A 2 2] W fun e w' => ∃ v', e = .returned v' ∧ w'.ownsRow W.heap.size 5 1 v' M1 (B8 E1) ∧ Below W.heap.size W w' from by
  have := W1.ints_any A [f, sz] 2 W hr (by simp) (by simp) (by intro x hx; simp only [List.mem_cons, List.not_mem_nil, or_false] at hx; rcases hx with rfl | rfl; exact HP.out.oki.1; exact HP.out.oki.2)
  rw [← hE1, ← hM1] at this; exact this)
 have HC2 := Lh (fun (W : World) (A : Option Addr) (c : Nat) (hr : Rd W W.heap.size A (St (lst L))) (hc : 2 * n ≤ c) => show Calls Tryd.prog 41 #[.slice A (2 * n) c] W fun e w' => ∃ v', e = .returned v' ∧ w'.ownsRow W.heap.size 5 1 v' M2 (B8 E2) ∧ Below W.heap.size W w' from by
  have := W1.strings_any A (lst L) c W hr (by rw [lst_len, ← HNL.out]; exact hc) (by rw [lst_len, ← HNL.out]; omega) (by rw [lst_bs, ← hE2, ← hM2]; omega) (by intro x hx; obtain ⟨y, hy, h1⟩ := lst_mem hx; have := HK.out y hy; rcases h1 with rfl | rfl <;> omega)
  rw [lst_bs, ← hE2, ← hM2, lst_len, ← HNL.out] at this; exact this)
 have HC3 := Lh (fun (W : World) (hb : Below w.heap.size w W) => show Calls Tryd.prog 62 #[.slice A2 m c2] W fun e w' => ∃ v', e = .returned v' ∧ w'.ownsRow W.heap.size 5 1 v' M3 (B8 E3) ∧ Below W.heap.size W w' from by
  have := W1.digests_any A2 S c2 W ((HP.out.r2.below hb).more hb.size) HP.out.k2.1 (by rw [← HML.out]; omega) HP.out.oks.2
  rw [← hE3, ← hM3, ← HML.out] at this; exact this)
 have HL1 := Lh hM1
 have HL2 := Lh hM2
 have HL3 := Lh hM3
 clear hn hm hk hp hW1 hb1 hE1 hE2 hE3 hM1 hM2 hM3
 go_enter Tryd.func35, Tryd.ntmps35
 go_upto_region 2 with fail
 first | rw [← HW.out] | (have hw := HW.out; simp only [PR] at hw; rw [← hw])
 have q2 : WB.cell? ⟨w.heap.size, 2, none⟩ = some (.slice A1 n c1) := (P1.out.cell 2).trans rfl
 go_wp2_with fail
 clear q2
 go_loopw [3, 10] (fun s3 s10 wr => ∃ j : Nat, j ≤ n ∧ s10 = .int .i64 j ∧ wr.ownsRow WB.heap.size 9 1 s3 (2 * j) (St (lst (L.take j))) ∧ Below WB.heap.size WB wr) (fun _ s10 _ => n - (intOf s10).toNat)
 case atStart => exact ⟨0, Nat.zero_le _, rfl, World.ownsRow_nil _ _ _ _, Below.refl _ _⟩
 case round =>
 obtain ⟨j, hj, rfl, ho, hb⟩ := hrel
 by_cases hlt : j < n
 ·
  have hjl : j < L.length := by have := HNL.out; omega
  have HB := Lh hb
  have hbw := HB1.out.trans (HB.out.mono HB1.out.size)
  obtain ⟨g, o, rfl, hg, hc⟩ := leaf_cells ((HP.out.r1.below hbw).more hbw.size) j hjl
  obtain ⟨x1, hx1⟩ : ∃ x, x = L[j].1 := ⟨_, rfl⟩
  obtain ⟨x2, hx2⟩ : ∃ x, x = L[j].2 := ⟨_, rfl⟩
  have hc1 := (hc j hjl).1
  have hc2 := (hc j hjl).2
  rw [← hx1] at hc1
  rw [← hx2] at hc2
  have HT := Lh (take_lst L j hjl)
  rw [← hx1, ← hx2] at HT
  have hltI : (j : Int) < (n : Int) := by omega
  have OA := Lh ((ho.alloc (.cells #[.string x1, .string x2] 41)).alloc (.cells #[.string x1, .string x2] 9))
  have BA := Lh ((HB.out.alloc HB.out.size (.cells #[.string x1, .string x2] 41)).alloc (by simp; have := HB.out.size; omega) (.cells #[.string x1, .string x2] 9))
  have RA := Lh (show Rd ((wr.alloc (.cells #[.string x1, .string x2] 41)).alloc (.cells #[.string x1, .string x2] 9)) _ (some ⟨wr.heap.size + 1, 0, none⟩) (St [x1, x2]) from by
   have := rd_new (wr.alloc (.cells #[.string x1, .string x2] 41)) (St [x1, x2]) 9
   rw [show (wr.alloc (.cells #[.string x1, .string x2] 41)).heap.size = wr.heap.size + 1 by simp] at this
   exact this)
  have hjb : 2 * j + 2 ≤ 4294967296 := by omega
  clear hc hx1 hx2 hg hbw hb ho
  go_wp2_with (at_builtin; refine wpList_append_strs rfl (.tmp 14) (.tmp 19) rfl WB.heap.size u3 (2 * j) (St (lst (L.take j))) rfl OA.out (some ⟨wr.heap.size + 1, 0, none⟩) 2 2 _ [x1, x2] rfl (fun e => by cases e) rfl RA.out hjb BA.out.size ?_; intro v5 w5 O5 G5; have K5 := Lh O5; have B5 := Lh (BA.out.grown G5 BA.out.size (fun q hq => (OA.out.lt q hq).1)); clear O5 G5)
  go_roundw
  case rel => exact ⟨j + 1, by omega, by go_num, by rw [HT.out, show 2 * (j + 1) = 2 * j + 2 by omega]; exact K5.out, B5.out⟩
  case measure => simp only [intOf]; omega
 ·
  obtain rfl : j = n := by omega
  have ho' : wr.ownsRow WB.heap.size 9 1 u3 (2 * j) (St (lst L)) := by rw [HNL.out, List.take_length] at ho; rw [HNL.out]; exact ho
  obtain ⟨A3, c3, rfl, hc3, hnil3, hrd3⟩ := own_form ho'
  have hbw := HB1.out.trans (hb.mono HB1.out.size)
  have hpw := P1.out.below hb P1.out.lt
  have PW := Lh hpw
  have q0 : wr.cell? ⟨w.heap.size, 0, none⟩ = some (.int .i64 f) := (PW.out.cell 0).trans rfl
  have q1 : wr.cell? ⟨w.heap.size, 1, none⟩ = some (.int .i64 sz) := (PW.out.cell 1).trans rfl
  have hbA := (Below.refl wr.heap.size wr).alloc (Nat.le_refl _) (.cells #[.int .i64 f, .int .i64 sz] 3)
  have KA := Lh (hbw.trans (hbA.mono hbw.size))
  have PA := Lh (PW.out.below hbA PW.out.lt)
  have RA := Lh ((hrd3.below hbA).more hbA.size)
  have HC3' := Lh hc3
  have RI := Lh (rd_new wr [.int .i64 f, .int .i64 sz] 3)
  clear ho ho' hnil3 hrd3 hbw hpw hb hbA hc3 hlt
  go_wp2_with fail
  refine (HC1.out _ _ RI.out).mono ?_; rintro e w3 ⟨v1, rfl, ho1, hb3⟩
  have K3 := Lh (KA.out.trans (hb3.mono KA.out.size))
  have O1 := Lh (own_base ho1 KA.out.size)
  have R3 := Lh ((RA.out.below hb3).more hb3.size)
  have P3 := Lh (PA.out.below hb3 PA.out.lt)
  clear ho1 hb3 q0 q1 KA RA PA RI PW HC1
  go_wp2_with fail
  refine (HC2.out w3 A3 c3 R3.out HC3'.out).mono ?_; rintro e w4 ⟨v2, rfl, ho2, hb4⟩
  obtain ⟨A4, c4, rfl, _, hnil4, hrd4⟩ := own_form ho2
  have K4 := Lh (K3.out.trans (hb4.mono K3.out.size))
  have O4 := Lh (own_below O1.out hb4)
  have P4 := Lh (P3.out.below hb4 P3.out.lt)
  have N4 := Lh hnil4
  have R4 := Lh hrd4
  clear ho2 hb4 hnil4 hrd4 O1 K3 R3 P3 HC2
  go_upto_region 9 with (at_builtin; go_loud (refine wpList_append_rd rfl (.tmp 28) (.tmp 30) rfl w.heap.size v1 M1 (B8 E1) rfl O4.out A4 M2 c4 _ E2 rfl N4.out HL2.out.symm R4.out (by omega) K4.out.size ?_; intro v5 w5 ho5 hg5; have O5 := Lh ho5; have K5 := Lh (K4.out.grown hg5 K4.out.size (fun q hq => (O4.out.lt q hq).1)); have P5 := Lh (blk_other P4.out O4.out hg5 (by decide)); clear ho5 hg5))
  have q3 : w5.cell? ⟨w.heap.size, 3, none⟩ = some (.slice A2 m c2) := (P5.out.cell 3).trans rfl
  go_wp2_with fail
  refine (HC3.out w5 K5.out).mono ?_; rintro e w6 ⟨v6, rfl, ho6, hb6⟩
  obtain ⟨A6, c6, rfl, _, hnil6, hrd6⟩ := own_form ho6
  have K6 := Lh (K5.out.trans (hb6.mono K5.out.size))
  have O6 := Lh (own_below O5.out hb6)
  have N6 := Lh hnil6
  have R6 := Lh hrd6
  clear ho6 hb6 hnil6 hrd6 q3 K5 O5 P5 O4 K4 P4 R4 N4
  go_wp2_with (at_builtin; refine wpList_append_rd rfl (.tmp 32) (.tmp 35) rfl w.heap.size v5 (M1 + M2) _ rfl O6.out A6 M3 c6 _ E3 rfl N6.out HL3.out.symm R6.out (by omega) K6.out.size ?_; intro v7 w7 ho7 hg7; have O7 := Lh ho7; have K7 := Lh (K6.out.grown hg7 K6.out.size (fun q hq => (O6.out.lt q hq).1)); clear ho7 hg7)
  go_ret
  refine ⟨v7, rfl, ?_, K7.out⟩
  rw [HEE.out, List.length_append, List.length_append, ← HL1.out, ← HL2.out, ← HL3.out, B8_append, B8_append, ← List.append_assoc, ← Nat.add_assoc]
  exact O7.out
end Go.Proofs.YtofccgkgjcnfbaaDoor
namespace Go.Proofs.YtofccgkgjcnfbaaDoor
open Go.RowKit Wr Sh
set_option linter.unusedVariables false
set_option maxRecDepth 100000
theorem s3c_below {a b c d e f : Nat} {x y z : Value} {W W' : World} (h : W.cell? ⟨a, b, none⟩ = some x ∧ W.cell? ⟨c, d, none⟩ = some y ∧ W.cell? ⟨e, f, none⟩ = some z) (hb : Below W.heap.size W W') : W'.cell? ⟨a, b, none⟩ = some x ∧ W'.cell? ⟨c, d, none⟩ = some y ∧ W'.cell? ⟨e, f, none⟩ = some z :=
 ⟨(hb.cell (World.block_lt_of_cell? _ _ h.1)).trans h.1, (hb.cell (World.block_lt_of_cell? _ _ h.2.1)).trans h.2.1, (hb.cell (World.block_lt_of_cell? _ _ h.2.2)).trans h.2.2⟩
set_option maxHeartbeats 8000000 in
theorem rencode_any (p : Pf) (A1 A2 : Option Addr) (n m c1 c2 : Nat) (w : World) (hn : n = p.leaves.length) (hm : m = p.sides.length) (hn4 : n ≤ 1000) (hm4 : m ≤ 1000) (hk : ∀ x ∈ p.leaves, x.1.size ≤ 1000 ∧ x.2.size ≤ 1000) (hp : PfAt w w.heap.size p A1 A2 c1 c2) :
  Calls Tryd.prog 37 #[.agg (PR p.first p.size (.slice A1 n c1) (.slice A2 m c2)).toArray] w fun e w' => ∃ v', e = .returned v' ∧ w'.ownsRow w.heap.size 5 1 v' (encP p).length (B8 (encP p)) ∧ Below w.heap.size w w' := by
 obtain ⟨f, sz, L, S⟩ := p
 dsimp only at hn hm hk ⊢
 obtain ⟨WB, hW1⟩ : ∃ W, W = w.alloc (.cells (PR f sz (.slice A1 n c1) (.slice A2 m c2)).toArray 54) := ⟨_, rfl⟩
 have hb1 : Below w.heap.size w WB := by rw [hW1]; exact (Below.refl _ _).alloc (Nat.le_refl _) _
 have HB1 := Lh hb1
 have P1 := Lh (show Blk WB w.heap.size 54 (PR f sz (.slice A1 n c1) (.slice A2 m c2)) by rw [hW1]; exact Blk.new w 54 _)
 have HW := Lh hW1
 have HP := Lh hp
 have HNL := Lh hn
 have HML := Lh hm
 have HK := Lh hk
 obtain ⟨E1, hE1⟩ : ∃ E, E = encInts [f, sz] := ⟨_, rfl⟩
 obtain ⟨E2, hE2⟩ : ∃ E, E = encStrs (ltx L) := ⟨_, rfl⟩
 obtain ⟨E3, hE3⟩ : ∃ E, E = encDigs S := ⟨_, rfl⟩
 obtain ⟨M1, hM1⟩ : ∃ n, n = E1.length := ⟨_, rfl⟩
 obtain ⟨M2, hM2⟩ : ∃ n, n = E2.length := ⟨_, rfl⟩
 obtain ⟨M3, hM3⟩ : ∃ n, n = E3.length := ⟨_, rfl⟩
 have b1 : M1 ≤ 27 := by rw [hM1, hE1]; exact ints2_len f sz
 have b2 : M2 ≤ 9 + 2 * n * 1009 := by
  have := encStrs_len (ltx L) 1000 (ltx_small hk)
  rw [← hE2, ← hM2, ltx_len, ← hn] at this; exact this
 have b3 : M3 ≤ 9 + m * 16 := by
  have := digs_len' S hp.oks.2
  rw [← hE3, ← hM3, ← hm] at this; exact this
 have HEE := Lh (show encP ⟨f, sz, L, S⟩ = E1 ++ (E2 ++ E3) by rw [hE1, hE2, hE3]; rfl)
 have HC1 := Lh (fun (W : World) (A : Option Addr) (hr : Rd W W.heap.size A [.int .i64 f, .int .i64 sz]) => show Calls Tryd.prog 63 #[.slice A 2 2] W fun e w' => ∃ v', e = .returned v' ∧ w'.ownsRow W.heap.size 5 1 v' M1 (B8 E1) ∧ Below W.heap.size W w' from by
  have := W1.rints_any A [f, sz] 2 W hr (by simp) (by intro x hx; simp only [List.mem_cons, List.not_mem_nil, or_false] at hx; rcases hx with rfl | rfl; exact HP.out.oki.1; exact HP.out.oki.2)
  rw [← hE1, ← hM1] at this; exact this)
 have HC2 := Lh (fun (W : World) (A : Option Addr) (c : Nat) (hr : Rd W W.heap.size A (St (lst L))) (hc : 2 * n ≤ c) => show Calls Tryd.prog 64 #[.slice A (2 * n) c] W fun e w' => ∃ v', e = .returned v' ∧ w'.ownsRow W.heap.size 5 1 v' M2 (B8 E2) ∧ Below W.heap.size W w' from by
  have := W1.rstrings_any A (lst L) c W hr (by rw [lst_len, ← HNL.out]; omega) (by rw [lst_bs, ← hE2, ← hM2]; omega) (by intro x hx; obtain ⟨y, hy, h1⟩ := lst_mem hx; have := HK.out y hy; rcases h1 with rfl | rfl <;> omega)
  rw [lst_bs, ← hE2, ← hM2, lst_len, ← HNL.out] at this; exact this)
 have HC3 := Lh (fun (W : World) (hb : Below w.heap.size w W) => show Calls Tryd.prog 65 #[.slice A2 m c2] W fun e w' => ∃ v', e = .returned v' ∧ w'.ownsRow W.heap.size 5 1 v' M3 (B8 E3) ∧ Below W.heap.size W w' from by
  have := W1.rdigests_any A2 S c2 W ((HP.out.r2.below hb).more hb.size) (by rw [← HML.out]; omega) HP.out.oks.2
  rw [← hE3, ← hM3, ← HML.out] at this; exact this)
 have HL1 := Lh hM1
 have HL2 := Lh hM2
 have HL3 := Lh hM3
 clear hn hm hk hp hW1 hb1 hE1 hE2 hE3 hM1 hM2 hM3
 go_enter Tryd.func37, Tryd.ntmps37
 go_upto_region 2 with fail
 first | rw [← HW.out] | (have hw := HW.out; simp only [PR] at hw; rw [← hw])
 go_wp2_with fail
 go_loopw [3, 4] (fun s3 s4 wr => ∃ j : Nat, j ≤ n ∧ s4 = .int .i64 j ∧ wr.ownsRow WB.heap.size 9 1 s3 (2 * j) (St (lst (L.take j))) ∧ Below WB.heap.size WB wr) (fun _ s4 _ => n - (intOf s4).toNat)
 case atStart => exact ⟨0, Nat.zero_le _, rfl, World.ownsRow_nil _ _ _ _, Below.refl _ _⟩
 case round =>
 obtain ⟨j, hj, rfl, ho, hb⟩ := hrel
 have hq2 : wr.cell? ⟨w.heap.size, 2, none⟩ = some (.slice A1 n c1) := (P1.out.below hb P1.out.lt |>.cell 2).trans rfl
 by_cases hlt : j < n
 ·
  have hjl : j < L.length := by have := HNL.out; omega
  have HB := Lh hb
  have HO := Lh ho
  have hbw := HB1.out.trans (HB.out.mono HB1.out.size)
  obtain ⟨g, o, rfl, hg, hc⟩ := leaf_cells ((HP.out.r1.below HB1.out).more HB1.out.size) j hjl
  obtain ⟨x1, hx1⟩ : ∃ x, x = L[j].1 := ⟨_, rfl⟩
  obtain ⟨x2, hx2⟩ : ∃ x, x = L[j].2 := ⟨_, rfl⟩
  have hc1 := (hc j hjl).1
  have hc2 := (hc j hjl).2
  rw [← hx1] at hc1
  rw [← hx2] at hc2
  have HS5 := Lh (fun (W : World) (h : Below WB.heap.size WB W) => show W.cell? ⟨w.heap.size, 2, none⟩ = some (.slice (some ⟨g, o, none⟩) n c1) ∧ W.cell? ⟨g, o + j * 2, none⟩ = some (.string x1) ∧ W.cell? ⟨g, o + j * 2 + 1, none⟩ = some (.string x2) from ⟨(P1.out.below h P1.out.lt |>.cell 2).trans rfl, (h.cell (p := ⟨g, o + j * 2, none⟩) hg).trans hc1, (h.cell (p := ⟨g, o + j * 2 + 1, none⟩) hg).trans hc2⟩)
  have HS0 := Lh (HS5.out wr hb)
  have HT := Lh (take_lst L j hjl)
  rw [← hx1, ← hx2] at HT
  have hltI : (j : Int) < (n : Int) := by omega
  have hjb : 2 * j + 2 ≤ 4294967296 := by omega
  clear hc hx1 hx2 hg hbw hb ho hc1 hc2
  go_upto_region 5 with fail
  refine wp_region_held (S := fun W => W.cell? ⟨w.heap.size, 2, none⟩ = some (.slice (some ⟨g, o, none⟩) n c1) ∧ W.cell? ⟨g, o + j * 2, none⟩ = some (.string x1) ∧ W.cell? ⟨g, o + j * 2 + 1, none⟩ = some (.string x2)) (by kernel_rfl) ?_
  change wpAnyH _ _ _ _ _ _ _ _ (World.drew wr)
  have hs0 : (World.drew wr).cell? ⟨w.heap.size, 2, none⟩ = some (.slice (some ⟨g, o, none⟩) n c1) ∧ (World.drew wr).cell? ⟨g, o + j * 2, none⟩ = some (.string x1) ∧ (World.drew wr).cell? ⟨g, o + j * 2 + 1, none⟩ = some (.string x2) := HS0.out
  have OD := Lh (show (World.drew wr).ownsRow WB.heap.size 9 1 u3 (2 * j) (St (lst (L.take j))) from own_below HO.out (Below.refl _ _).drew)
  have BD := Lh (show Below WB.heap.size WB (World.drew wr) from HB.out.drew)
  generalize World.drew wr = Wd at hs0 OD BD ⊢
  refine tkH 0 ({ dst := some 13, op := Op.move (Operand.tmp 3), type := 47, pos := "ref.go:236", after := #[], guard := none }) u3 hs0 (fun W hW => ?y1) ?_
  case y1 => go_simp
  try simp only [zp, zn, z1, z2, z3]
  refine tkH 1 ({ dst := some 14, op := Op.fieldAddr 54 (Operand.tmp 1) 2, type := 0, pos := "ref.go:236", after := #[], guard := none }) (.pointer (some ⟨w.heap.size, 2, none⟩)) hs0 (fun W hW => ?y2) ?_
  case y2 => go_simp
  try simp only [zp, zn, z1, z2, z3]
  refine tkH 2 ({ dst := some 15, op := Op.load 24 (Operand.tmp 14), type := 24, pos := "ref.go:236", after := #[dD 1], guard := none }) (.slice (some ⟨g, o, none⟩) n c1) hs0 (fun W hW => by have hcl := hW.1; go_simp) ?_
  try simp only [zp, zn, z1, z2, z3]
  refine tkH 3 ({ dst := some 16, op := Op.move (Operand.tmp 4), type := 3, pos := "ref.go:236", after := #[], guard := none }) (.int .i64 (j : Int)) hs0 (fun W hW => ?y4) ?_
  case y4 => go_simp
  try simp only [zp, zn, z1, z2, z3]
  refine tkH 4 ({ dst := some 17, op := Op.indexAddr 24 (Operand.tmp 15) (Operand.tmp 16), type := 0, pos := "ref.go:236", after := #[dD 2, dD 3], guard := none }) (.pointer (some ⟨g, o + j * 2, none⟩)) hs0 (fun W hW => ?y5) ?_
  case y5 => go_simp
  try simp only [zp, zn, z1, z2, z3]
  refine tkH 5 ({ dst := some 18, op := Op.fieldAddr 87 (Operand.tmp 17) 0, type := 0, pos := "ref.go:236", after := #[dD 4], guard := none }) (.pointer (some ⟨g, o + j * 2, none⟩)) hs0 (fun W hW => ?y6) ?_
  case y6 => go_simp
  try simp only [zp, zn, z1, z2, z3]
  refine tkH 6 ({ dst := some 19, op := Op.load 9 (Operand.tmp 18), type := 9, pos := "ref.go:236", after := #[dD 5], guard := none }) (.string x1) hs0 (fun W hW => by have hcl := hW.2.1; go_simp) ?_
  try simp only [zp, zn, z1, z2, z3]
  refine tkH 7 ({ dst := some 20, op := Op.fieldAddr 54 (Operand.tmp 1) 2, type := 0, pos := "ref.go:236", after := #[], guard := none }) (.pointer (some ⟨w.heap.size, 2, none⟩)) hs0 (fun W hW => ?y8) ?_
  case y8 => go_simp
  try simp only [zp, zn, z1, z2, z3]
  refine tkH 8 ({ dst := some 21, op := Op.load 24 (Operand.tmp 20), type := 24, pos := "ref.go:236", after := #[dD 7], guard := none }) (.slice (some ⟨g, o, none⟩) n c1) hs0 (fun W hW => by have hcl := hW.1; go_simp) ?_
  try simp only [zp, zn, z1, z2, z3]
  refine tkH 9 ({ dst := some 22, op := Op.move (Operand.tmp 4), type := 3, pos := "ref.go:236", after := #[], guard := none }) (.int .i64 (j : Int)) hs0 (fun W hW => ?y10) ?_
  case y10 => go_simp
  try simp only [zp, zn, z1, z2, z3]
  refine tkH 10 ({ dst := some 23, op := Op.indexAddr 24 (Operand.tmp 21) (Operand.tmp 22), type := 0, pos := "ref.go:236", after := #[dD 8, dD 9], guard := none }) (.pointer (some ⟨g, o + j * 2, none⟩)) hs0 (fun W hW => ?y11) ?_
  case y11 => go_simp
  try simp only [zp, zn, z1, z2, z3]
  refine tkH 11 ({ dst := some 24, op := Op.fieldAddr 87 (Operand.tmp 23) 1, type := 0, pos := "ref.go:236", after := #[dD 10], guard := none }) (.pointer (some ⟨g, o + j * 2 + 1, none⟩)) hs0 (fun W hW => ?y12) ?_
  case y12 => go_simp
  try simp only [zp, zn, z1, z2, z3]
  refine tkH 12 ({ dst := some 25, op := Op.load 9 (Operand.tmp 24), type := 9, pos := "ref.go:236", after := #[dD 11], guard := none }) (.string x2) hs0 (fun W hW => by have hcl := hW.2.2; go_simp) ?_
  try simp only [zp, zn, z1, z2, z3]
  refine wpAnyH_ready (rs := [13]) (by kernel_rfl) (by simp) ?_
  refine AllReadyH.cons (o := { dst := some 26, op := Op.buildSlice 47 2 #[(0, Operand.tmp 19), (1, Operand.tmp 25)], type := 47, pos := "ref.go:236", after := #[dD 6, dD 12], guard := none }) rfl (fun K hK => ?_) AllReadyH.nil
  rw [if_pos (by rfl)]
  have hbt := (Below.refl Wd.heap.size Wd).alloc (Nat.le_refl _) (.cells #[.string x1, .string x2] 9)
  have OA := Lh (OD.out.alloc (.cells #[.string x1, .string x2] 9))
  have BA := Lh (BD.out.trans (hbt.mono BD.out.size))
  have RA := Lh (rd_new Wd (St [x1, x2]) 9)
  have hs2 := s3c_below hs0 hbt
  clear hbt
  go_simp
  refine hK.out _ _ hs2 (fun _ => ?_)
  clear hK K
  try simp only [zp, zn, z1, z2, z3]
  refine wpAnyH_ready (rs := [14]) (by kernel_rfl) (by simp) ?_
  refine AllReadyH.cons (o := { dst := some 27, op := Op.call { callee := Callee.builtin Builtin.append, args := #[Operand.tmp 13, Operand.tmp 26], argTypes := #[47, 47] }, type := 47, pos := "ref.go:236", after := #[dD 0, dD 13], guard := none }) rfl (fun K hK => ?_) AllReadyH.nil
  rw [if_pos (by rfl)]
  refine wp_append_strs (.tmp 13) (.tmp 26) rfl WB.heap.size u3 (2 * j) (St (lst (L.take j))) rfl OA.out (some ⟨Wd.heap.size, 0, none⟩) 2 2 _ [x1, x2] rfl (fun e => by cases e) rfl RA.out hjb BA.out.size ?_
  intro v5 w5 O5 G5
  have K5 := Lh O5
  have hb5 := BA.out.grown G5 BA.out.size (fun q hq => (OA.out.lt q hq).1)
  have B5 := Lh hb5
  have hs5 : w5.cell? ⟨w.heap.size, 2, none⟩ = some (.slice (some ⟨g, o, none⟩) n c1) ∧ w5.cell? ⟨g, o + j * 2, none⟩ = some (.string x1) ∧ w5.cell? ⟨g, o + j * 2 + 1, none⟩ = some (.string x2) := HS5.out w5 hb5
  clear O5 G5 hb5
  refine hK.out _ _ hs5 (fun _ => ?_)
  clear hK K
  try simp only [zp, zn, z1, z2, z3]
  refine tkH 15 ({ dst := some 3, op := Op.assign (Operand.tmp 27), type := 47, pos := "ref.go:236", after := #[dD 14, dC 14, dP 0, dP 1, dP 2, dP 3, dP 4, dP 5, dP 6, dP 7, dP 8, dP 9, dP 10, dP 11, dP 12, dP 13, dP 14], guard := none }) v5 hs5 (fun W hW => ?y14) ?_
  case y14 => go_simp
  try simp only [zp, zn, z1, z2, z3]
  refine wpAnyH_done (by kernel_rfl) ?_ _
  try simp only [zp, zn, z1, z2, z3]
  go_wp2_with fail
  go_roundw
  case rel => exact ⟨j + 1, by omega, by go_num, by rw [HT.out, show 2 * (j + 1) = 2 * j + 2 by omega]; exact K5.out, B5.out⟩
  case measure => simp only [intOf]; omega
 ·
  obtain rfl : j = n := by omega
  have ho' : wr.ownsRow WB.heap.size 9 1 u3 (2 * j) (St (lst L)) := by rw [HNL.out, List.take_length] at ho; rw [HNL.out]; exact ho
  obtain ⟨A3, c3, rfl, hc3, hnil3, hrd3⟩ := own_form ho'
  have hbw := HB1.out.trans (hb.mono HB1.out.size)
  have hpw := P1.out.below hb P1.out.lt
  have PW := Lh hpw
  have q0 : wr.cell? ⟨w.heap.size, 0, none⟩ = some (.int .i64 f) := (PW.out.cell 0).trans rfl
  have q1 : wr.cell? ⟨w.heap.size, 1, none⟩ = some (.int .i64 sz) := (PW.out.cell 1).trans rfl
  have hbA := (Below.refl wr.heap.size wr).alloc (Nat.le_refl _) (.cells #[.int .i64 f, .int .i64 sz] 3)
  have KA := Lh (hbw.trans (hbA.mono hbw.size))
  have PA := Lh (PW.out.below hbA PW.out.lt)
  have RA := Lh ((hrd3.below hbA).more hbA.size)
  have HC3' := Lh hc3
  have RI := Lh (rd_new wr [.int .i64 f, .int .i64 sz] 3)
  clear ho ho' hnil3 hrd3 hbw hpw hb hbA hc3 hlt
  go_wp2_with fail
  refine (HC1.out _ _ RI.out).mono ?_; rintro e w3 ⟨v1, rfl, ho1, hb3⟩
  have K3 := Lh (KA.out.trans (hb3.mono KA.out.size))
  have O1 := Lh (own_base ho1 KA.out.size)
  have R3 := Lh ((RA.out.below hb3).more hb3.size)
  have P3 := Lh (PA.out.below hb3 PA.out.lt)
  clear ho1 hb3 q0 q1 KA RA PA RI PW HC1
  go_wp2_with fail
  refine (HC2.out w3 A3 c3 R3.out HC3'.out).mono ?_; rintro e w4 ⟨v2, rfl, ho2, hb4⟩
  obtain ⟨A4, c4, rfl, _, hnil4, hrd4⟩ := own_form ho2
  have K4 := Lh (K3.out.trans (hb4.mono K3.out.size))
  have O4 := Lh (own_below O1.out hb4)
  have P4 := Lh (P3.out.below hb4 P3.out.lt)
  have N4 := Lh hnil4
  have R4 := Lh hrd4
  clear ho2 hb4 hnil4 hrd4 O1 K3 R3 P3 HC2
  go_upto_region 7 with (at_builtin; go_loud (refine wpList_append_rd rfl (.tmp 33) (.tmp 35) rfl w.heap.size v1 M1 (B8 E1) rfl O4.out A4 M2 c4 _ E2 rfl N4.out HL2.out.symm R4.out (by omega) K4.out.size ?_; intro v5 w5 ho5 hg5; have O5 := Lh ho5; have K5 := Lh (K4.out.grown hg5 K4.out.size (fun q hq => (O4.out.lt q hq).1)); have P5 := Lh (blk_other P4.out O4.out hg5 (by decide)); clear ho5 hg5))
  have q3 : w5.cell? ⟨w.heap.size, 3, none⟩ = some (.slice A2 m c2) := (P5.out.cell 3).trans rfl
  go_wp2_with fail
  refine (HC3.out w5 K5.out).mono ?_; rintro e w6 ⟨v6, rfl, ho6, hb6⟩
  obtain ⟨A6, c6, rfl, _, hnil6, hrd6⟩ := own_form ho6
  have K6 := Lh (K5.out.trans (hb6.mono K5.out.size))
  have O6 := Lh (own_below O5.out hb6)
  have N6 := Lh hnil6
  have R6 := Lh hrd6
  clear ho6 hb6 hnil6 hrd6 q3 K5 O5 P5 O4 K4 P4 R4 N4
  go_wp2_with (at_builtin; refine wpList_append_rd rfl (.tmp 37) (.tmp 40) rfl w.heap.size v5 (M1 + M2) _ rfl O6.out A6 M3 c6 _ E3 rfl N6.out HL3.out.symm R6.out (by omega) K6.out.size ?_; intro v7 w7 ho7 hg7; have O7 := Lh ho7; have K7 := Lh (K6.out.grown hg7 K6.out.size (fun q hq => (O6.out.lt q hq).1)); clear ho7 hg7)
  go_ret
  refine ⟨v7, rfl, ?_, K7.out⟩
  rw [HEE.out, List.length_append, List.length_append, ← HL1.out, ← HL2.out, ← HL3.out, B8_append, B8_append, ← List.append_assoc, ← Nat.add_assoc]
  exact O7.out
end Go.Proofs.YtofccgkgjcnfbaaDoor
