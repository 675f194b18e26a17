/-
  The contract of hash.Of.
  Conditions: the input has at most 2^38 bytes; the table of the round constants is as the text lays it.
-/
import Derived.Test.YtofccgkgjcnfbaaDoorZ
import Derived.Test.YtofccgkgjcnfbaaDoorGAuxPureIntPure2
import Derived.Test.YtofccgkgjcnfbaaDoorGPure3Put
set_option linter.unusedSimpArgs false
namespace Go.Proofs.YtofccgkgjcnfbaaDoor
open Go.RowKit Wr Sh
set_option linter.unusedVariables false
set_option maxRecDepth 100000
theorem own_form {w : World} {base e size n : Nat} {v : Value} {xs : List Value} (h : w.ownsRow base e size v n xs) : ∃ (A : Option Addr) (c : Nat), v = .slice A n c ∧ n ≤ c ∧ (A = none → c = 0) ∧ Rd w w.heap.size A xs := by
 rcases h.2 with ⟨rfl, rfl⟩ | ⟨g, cap, cur, rfl, hb, hg, hnc, _, _, _⟩
 ·
  exact ⟨none, 0, rfl, Nat.le_refl _, fun _ => rfl, Rd.of_own h⟩
 ·
  exact ⟨_, cap, rfl, hnc, (fun e => by cases e), Rd.of_own h⟩
theorem bytes_s (s : ByteArray) (w : World) (hs : s.size ≤ 1099511627776) :
  Calls Tryd.prog 101 #[.string s] w fun e w' => ∃ (A' : Option Addr) (c' : Nat), e = .returned (.slice A' (encStr s.data.toList).length c') ∧ (encStr s.data.toList).length ≤ c' ∧ Rd w' w'.heap.size A' (B8 (encStr s.data.toList)) ∧ Below w.heap.size w w' := by
 refine (bytes_any s w hs).mono ?_
 rintro e w' ⟨v, rfl, ho, hb⟩
 obtain ⟨A', c', rfl, h1, _, h3⟩ := own_form ho
 exact ⟨A', c', rfl, h1, h3, hb⟩
theorem rd_new (W : World) (xs : List Value) (t : TypeId) : Rd (W.alloc (.cells xs.toArray t)) (W.alloc (.cells xs.toArray t)).heap.size (some ⟨W.heap.size, 0, none⟩) xs := by
 intro _
 refine ⟨W.heap.size, 0, rfl, by simp, fun j u hu => ?_⟩
 rw [Nat.zero_add, cell_of_row _ _ _ _ _ _ (heap_alloc_new W _)]
 simpa using hu
theorem size_SC {v : S8} {rest : List UInt8} {n : Nat} (h : rest.length = 64) : (Tryd.prog.info? 151).map (·.size) = some (SC v rest n).toArray.size := size34' _ (SC_len v rest n h)
theorem ZS_SC {v : S8} {rest : List UInt8} {n : Nat} (h : rest.length = 64) : ZS.toArray.size = (SC v rest n).toArray.size := by rw [List.size_toArray, List.size_toArray, SC_len v rest n h]; rfl
def St (l : List ByteArray) : List Value := l.map Value.string
theorem St_get (l : List ByteArray) (j : Nat) (h : j < l.length) : (St l)[j]? = some (.string l[j]) := by simp [St, h]
def inp (tag : UInt8) (l : List ByteArray) : List UInt8 := tag :: (l.map fun s => encStr s.data.toList).flatten
theorem inp_succ (tag : UInt8) (l : List ByteArray) (j : Nat) (h : j < l.length) : inp tag (l.take (j + 1)) = inp tag (l.take j) ++ encStr l[j].data.toList := by
 unfold inp
 rw [List.take_succ_eq_append_getElem h, List.map_append, List.flatten_append]
 simp
theorem inp_le (tag : UInt8) (l : List ByteArray) (j : Nat) : (inp tag (l.take j)).length ≤ (inp tag l).length := by
 unfold inp
 conv => rhs; rw [← List.take_append_drop j l]
 rw [List.map_append, List.flatten_append]
 simp only [List.length_cons, List.length_append]; omega
theorem inp_long (tag : UInt8) (l : List ByteArray) (j : Nat) (h : j < l.length) : l[j].size ≤ (inp tag l).length := by
 have h1 := inp_le tag l (j + 1)
 rw [inp_succ tag l j h, List.length_append] at h1
 unfold encStr at h1
 rw [List.length_append, size_l] at h1
 omega
theorem inp_many (tag : UInt8) (l : List ByteArray) : l.length ≤ (inp tag l).length := by
 unfold inp
 have : l.length ≤ ((l.map fun s => encStr s.data.toList).flatten).length := by
  induction l with
  | nil => simp
  | cons a l ih =>
   rw [List.map_cons, List.flatten_cons, List.length_append, List.length_cons]
   have : 1 ≤ (encStr a.data.toList).length := by
    unfold encStr
    rw [List.length_append]
    have := (enc_le (a.data.toList.length : Int)).1
    omega
   omega
 rw [List.length_cons]; omega
set_option maxRecDepth 100000 in
set_option maxHeartbeats 4000000 in
theorem of_go (tag : Int) (A : Option Addr) (l : List ByteArray) (c : Nat) (w : World) (hr : Rd w w.heap.size A (St l)) (hc : l.length ≤ c) (t8 : UInt8) (ht8 : IntKind.u8.wrap tag = (t8.toNat : Int)) (hsz : (inp t8 l).length ≤ 274877906944) (ht : Tab 1 w)
  (R : List UInt8) (hR : Hid (R = sha (inp t8 l))) :
  Calls Tryd.prog 76 #[.int .i64 tag, .slice A l.length c] w fun e w' => e = .returned (.agg (B8 (R.take 16)).toArray) ∧ Below w.heap.size w w' := by
 have HT := Lh ht
 have HR := Lh hr
 obtain ⟨N, hN⟩ : ∃ N, N = l.length := ⟨_, rfl⟩
 have hN40 : N ≤ 274877906944 := by rw [hN]; exact Nat.le_trans (inp_many t8 l) hsz
 rw [← hN] at hc ⊢
 have HN := Lh hN
 have HB0 : ∀ O : Obj, Hid (Below w.heap.size w (w.alloc O)) := fun O => Lh ((Below.refl _ _).alloc (Nat.le_refl _) O)
 have HZ := Lh (Blk.new w 29 (B8 (List.replicate 16 0)))
 have z34 := zero34
 clear ht hr hN
 go_enter Tryd.func76, Tryd.ntmps76
 go_wp2_with (first
  | (go_at_call 100; refine (begin_s _).mono ?_; rintro e w1 ⟨rfl, hb1⟩; have HB1 := Lh ((HB0 _).out.trans (hb1.mono (by simp))); have HK1 := Lh (HZ.out.below hb1 (by simp)); clear hb1)
  | (go_at_call 99; refine (extB_go [] [t8] Z64 init 0 0 (some ⟨w1.heap.size, 0, none⟩) 1 (w1.alloc (.cells #[.int .u8 (t8.toNat : Int)] 5)) part_z rfl (rd_new w1 (B8 [t8]) 5) (Nat.le_refl _) (by simp) (HT.out.below (HB1.out.alloc HB1.out.size _) HT.out.1) 1 rfl [t8] (Lh rfl)).mono ?_; rintro e w2 ⟨rest2, v2, rfl, hp2, hb2⟩; have HP2 := Lh hp2; have HB2 := Lh ((HB1.out.alloc HB1.out.size (.cells #[.int .u8 (t8.toNat : Int)] 5)).trans (hb2.mono (HB1.out.alloc HB1.out.size _).size)); have HK2 := Lh ((HK1.out.alloc (.cells #[.int .u8 (t8.toNat : Int)] 5)).below hb2 (HK1.out.alloc _).lt); have HS2 := Lh (size_SC (v := v2) (n := 1) hp2.hl); have HZ2 := Lh (ZS_SC (v := v2) (n := 1) hp2.hl); clear hb2 hp2)
  | (with_reducible refine wpList_store_row rfl 151 (.tmp 5) (.tmp 13) rfl w2.heap.size (SC v2 rest2 1).toArray rfl rfl 151 _ (heap_alloc_new w2 _) HS2.out HZ2.out (SC_one _ _ _) ?_))
 generalize hW : World.setRow _ _ _ = W1
 have f1 : Blk W1 w.heap.size 29 (B8 (List.replicate 16 0)) := by rw [← hW]; exact (HK2.out.alloc _).setRow (Nat.ne_of_lt HK2.out.lt) _
 have f2 : Blk W1 w2.heap.size 151 (SC v2 rest2 1) := by rw [← hW]; exact Blk.row (Blk.new w2 151 ZS) _
 have hlt2 : w.heap.size < w2.heap.size := HK2.out.lt
 have HB : Hid (Below w.heap.size w W1) := by rw [← hW]; exact Lh (belowRow (HB2.out.alloc (Nat.le_of_lt hlt2) _) (Nat.le_of_lt hlt2) _)
 obtain ⟨G, hG⟩ : ∃ G, G = w2.heap.size := ⟨_, rfl⟩
 rw [← hG] at f2 hlt2 ⊢
 clear hW hG HB1 HB2 HK1 HK2 HS2 HZ2 HZ HB0
 go_loopw [16] (fun s16 wr => ∃ (j nj : Nat) (rest : List UInt8) (v : S8), j ≤ N ∧ s16 = .int .i64 j ∧ Hid (nj = (inp t8 (l.take j)).length) ∧ Hid (Part (inp t8 (l.take j)) rest (nj % 64) v) ∧ Blk wr w.heap.size 29 (B8 (List.replicate 16 0)) ∧ Blk wr G 151 (SC v rest nj) ∧ Hid (Below w.heap.size w wr))
  (fun s16 _ => N - (intOf s16).toNat)
 case atStart => exact ⟨0, 1, rest2, v2, by omega, rfl, Lh rfl, HP2, f1, f2, HB⟩
 case round =>
 clear f1 f2 HB HP2
 obtain ⟨j, nj, rest, v, hj, rfl, hnj, hp, f1, f2, HB⟩ := hrel
 by_cases hlt : j < N
 ·
  have hjl : j < l.length := by have := HN.out; omega
  obtain ⟨g0, o, rfl, hg0, hcell⟩ := HR.out (by intro e; have := congrArg List.length e; simp only [St, List.length_map, List.length_nil] at this; omega)
  have cj : wr.cell? ⟨g0, o + j, none⟩ = some (.string l[j]) := (HB.out.cell (p := ⟨g0, o + j, none⟩) hg0).trans (hcell j _ (St_get l j hjl))
  clear hcell
  have hlong := inp_long t8 l j hjl
  have hle1 := inp_le t8 l (j + 1)
  have hS0 : Below wr.heap.size wr wr.drew := (Below.refl _ _).drew
  have HS73 := Lh (SC_len v rest nj hp.out.hl)
  obtain ⟨s, hs⟩ : ∃ s, s = l[j] := ⟨_, rfl⟩
  rw [← hs] at cj hlong
  have hin : inp t8 (l.take (j + 1)) = inp t8 (l.take j) ++ encStr s.data.toList := by rw [hs]; exact inp_succ t8 l j hjl
  have Hin := Lh hin
  obtain ⟨nj2, hnj2⟩ : ∃ nj2, nj2 = nj + (encStr s.data.toList).length := ⟨_, rfl⟩
  have Hnj2 := Lh hnj2
  have hnn : nj + (encStr s.data.toList).length ≤ 274877906944 := by
   rw [hin, List.length_append, ← hnj.out] at hle1; omega
  have Hnj3 : Hid (nj2 = (inp t8 (l.take (j + 1))).length) := Lh (by rw [hin, List.length_append, hnj2, hnj.out])
  clear hs hin hnj2 hle1
  go_wp2
  refine wp_region_any (by kernel_rfl) ?_
  change wpAny _ _ _ _ _ _ _ (World.drew wr)
  refine tk 1 (⟨some 21, .move (.tmp 7), 9, "hash.go:94", #[], none⟩) (.string s) (fun W => ?y1) ?_
  case y1 => go_simp
  try simp only [zp, zn, z1, z2, z3]
  refine wpAny_ready (rs := [0, 2]) (by kernel_rfl) (by simp) ?_
  refine AllReady.cons (o := ⟨some 20, .load 151 (.tmp 5), 151, "hash.go:94", #[], none⟩) rfl (fun K hK => ?_) (AllReady.cons (o := ⟨some 22, .call { callee := .value (.func 101), args := #[.tmp 21], argTypes := #[9] }, 39, "hash.go:94", #[{ on := 1, ground := Ground.data }], none⟩) rfl (fun K hK => ?_) AllReady.nil)
  ·
   rw [if_pos (by rfl)]
   refine wp_load_at 151 (.tmp 5) rfl ⟨G, 0, none⟩ rfl (SC v rest nj) (.struct #[{ name := "value", type := 148, offset := 0, embedded := false, tag := "", pkgPath := "culprit/hash", byteOffset := 0 }, { name := "rest", type := 149, offset := 8, embedded := false, tag := "", pkgPath := "culprit/hash", byteOffset := 32 }, { name := "size", type := 139, offset := 72, embedded := false, tag := "", pkgPath := "culprit/hash", byteOffset := 96 }]) (f2.below hS0 f2.lt).at Tryd.underlying151 rfl (size34 _ HS73.out) ?_
   refine hK _ _ ?_
   clear hK K
   try simp only [zp, zn, z1, z2, z3]
   refine wpAny_ready (rs := [2]) (by kernel_rfl) (by simp) ?_
   refine AllReady.cons (o := ⟨some 22, .call { callee := .value (.func 101), args := #[.tmp 21], argTypes := #[9] }, 39, "hash.go:94", #[{ on := 1, ground := Ground.data }], none⟩) rfl (fun K hK => ?_) AllReady.nil
   rw [if_pos (by rfl)]
   go_simp
   refine (bytes_s s _ (by omega)).mono ?_
   rintro e w3 ⟨A3, c3, rfl, hc3, hr3, hb3⟩
   have hS1 : Below wr.heap.size wr w3 := hS0.trans hb3
   have HR3 := Lh hr3
   clear hr3 hb3
   go_wp2_with fail
   (try (refine hK _ _ ?_; clear hK K))
   try simp only [zp, zn, z1, z2, z3]
   refine wpAny_ready (rs := [3]) (by kernel_rfl) (by simp) ?_
   refine AllReady.cons (o := ⟨some 23, .call { callee := .value (.func 99), args := #[.tmp 20, .tmp 22], argTypes := #[151, 39] }, 151, "hash.go:94", #[{ on := 0, ground := Ground.data }, { on := 2, ground := Ground.data }, { on := 2, ground := Ground.chain }], none⟩) rfl (fun K hK => ?_) AllReady.nil
   rw [if_pos (by rfl)]
   go_simp
   refine (extB_go (inp t8 (l.take j)) (encStr s.data.toList) rest v nj (nj % 64) A3 c3 w3 hp.out hnj.out HR3.out hc3 (by omega) (HT.out.below (HB.out.trans (hS1.mono (Nat.le_of_lt f1.lt))) HT.out.1) nj2 Hnj2.out (inp t8 (l.take (j + 1))) Hin).mono ?_
   rintro e w4 ⟨rest4, v4, rfl, hp4, hb4⟩
   have HP4 := Lh hp4
   have hS2 : Below wr.heap.size wr w4 := hS1.trans (hb4.mono hS1.size)
   have hg4 : Blk w4 G 151 (SC v rest nj) := f2.below hS2 f2.lt
   have HS4 := Lh (size_SC (v := v4) (n := nj2) hp4.hl)
   have HZ4 := Lh (show (SC v rest nj).toArray.size = (SC v4 rest4 nj2).toArray.size by rw [List.size_toArray, List.size_toArray, SC_len v4 rest4 nj2 hp4.hl, HS73.out])
   clear hp4 hb4
   go_wp2_with fail
   (try (refine hK _ _ ?_; clear hK K))
   try simp only [zp, zn, z1, z2, z3]
   refine wpAny_ready (rs := [4]) (by kernel_rfl) (by simp) ?_
   refine AllReady.cons (o := ⟨none, .store 151 (.tmp 5) (.tmp 23), 0, "hash.go:94", #[{ on := 3, ground := Ground.data }, { on := 3, ground := Ground.chain }, { on := 0, ground := Ground.phase }, { on := 1, ground := Ground.phase }, { on := 2, ground := Ground.phase }, { on := 3, ground := Ground.phase }], none⟩) rfl (fun K hK => ?_) AllReady.nil
   rw [if_pos (by rfl)]
   refine wp_store_row 151 (.tmp 5) (.tmp 23) rfl G (SC v4 rest4 nj2).toArray rfl rfl 151 _ hg4 HS4.out HZ4.out (SC_one _ _ _) ?_
   have hx1 : Blk (w4.setRow G (SC v4 rest4 nj2).toArray) w.heap.size 29 (B8 (List.replicate 16 0)) := (f1.below hS2 f1.lt).setRow (Nat.ne_of_lt hlt2) _
   have hx2 : Blk (w4.setRow G (SC v4 rest4 nj2).toArray) G 151 (SC v4 rest4 nj2) := hg4.row _
   have hx3 : Hid (Below w.heap.size w (w4.setRow G (SC v4 rest4 nj2).toArray)) := Lh (belowRow (HB.out.trans (hS2.mono (Nat.le_of_lt f1.lt))) (Nat.le_of_lt hlt2) _)
   refine hK _ _ ?_
   clear hK K
   refine wpAny_done (by kernel_rfl) ?_ _
   try simp only [zp, zn, z1, z2, z3]
   go_wp2
   go_roundw
   case rel => exact ⟨j + 1, nj2, rest4, v4, by omega, by go_num, Hnj3, HP4, hx1, hx2, hx3⟩
   case measure => simp only [intOf]; omega
  ·
   rw [if_pos (by rfl)]
   go_simp
   refine (bytes_s s _ (by omega)).mono ?_
   rintro e w3 ⟨A3, c3, rfl, hc3, hr3, hb3⟩
   have hS1 : Below wr.heap.size wr w3 := hS0.trans hb3
   have HR3 := Lh hr3
   clear hr3 hb3
   go_wp2_with fail
   (try (refine hK _ _ ?_; clear hK K))
   try simp only [zp, zn, z1, z2, z3]
   refine wpAny_ready (rs := [0]) (by kernel_rfl) (by simp) ?_
   refine AllReady.cons (o := ⟨some 20, .load 151 (.tmp 5), 151, "hash.go:94", #[], none⟩) rfl (fun K hK => ?_) AllReady.nil
   rw [if_pos (by rfl)]
   refine wp_load_at 151 (.tmp 5) rfl ⟨G, 0, none⟩ rfl (SC v rest nj) (.struct #[{ name := "value", type := 148, offset := 0, embedded := false, tag := "", pkgPath := "culprit/hash", byteOffset := 0 }, { name := "rest", type := 149, offset := 8, embedded := false, tag := "", pkgPath := "culprit/hash", byteOffset := 32 }, { name := "size", type := 139, offset := 72, embedded := false, tag := "", pkgPath := "culprit/hash", byteOffset := 96 }]) (f2.below hS1 f2.lt).at Tryd.underlying151 rfl (size34 _ HS73.out) ?_
   refine hK _ _ ?_
   clear hK K
   try simp only [zp, zn, z1, z2, z3]
   refine wpAny_ready (rs := [3]) (by kernel_rfl) (by simp) ?_
   refine AllReady.cons (o := ⟨some 23, .call { callee := .value (.func 99), args := #[.tmp 20, .tmp 22], argTypes := #[151, 39] }, 151, "hash.go:94", #[{ on := 0, ground := Ground.data }, { on := 2, ground := Ground.data }, { on := 2, ground := Ground.chain }], none⟩) rfl (fun K hK => ?_) AllReady.nil
   rw [if_pos (by rfl)]
   go_simp
   refine (extB_go (inp t8 (l.take j)) (encStr s.data.toList) rest v nj (nj % 64) A3 c3 w3 hp.out hnj.out HR3.out hc3 (by omega) (HT.out.below (HB.out.trans (hS1.mono (Nat.le_of_lt f1.lt))) HT.out.1) nj2 Hnj2.out (inp t8 (l.take (j + 1))) Hin).mono ?_
   rintro e w4 ⟨rest4, v4, rfl, hp4, hb4⟩
   have HP4 := Lh hp4
   have hS2 : Below wr.heap.size wr w4 := hS1.trans (hb4.mono hS1.size)
   have hg4 : Blk w4 G 151 (SC v rest nj) := f2.below hS2 f2.lt
   have HS4 := Lh (size_SC (v := v4) (n := nj2) hp4.hl)
   have HZ4 := Lh (show (SC v rest nj).toArray.size = (SC v4 rest4 nj2).toArray.size by rw [List.size_toArray, List.size_toArray, SC_len v4 rest4 nj2 hp4.hl, HS73.out])
   clear hp4 hb4
   go_wp2_with fail
   (try (refine hK _ _ ?_; clear hK K))
   try simp only [zp, zn, z1, z2, z3]
   refine wpAny_ready (rs := [4]) (by kernel_rfl) (by simp) ?_
   refine AllReady.cons (o := ⟨none, .store 151 (.tmp 5) (.tmp 23), 0, "hash.go:94", #[{ on := 3, ground := Ground.data }, { on := 3, ground := Ground.chain }, { on := 0, ground := Ground.phase }, { on := 1, ground := Ground.phase }, { on := 2, ground := Ground.phase }, { on := 3, ground := Ground.phase }], none⟩) rfl (fun K hK => ?_) AllReady.nil
   rw [if_pos (by rfl)]
   refine wp_store_row 151 (.tmp 5) (.tmp 23) rfl G (SC v4 rest4 nj2).toArray rfl rfl 151 _ hg4 HS4.out HZ4.out (SC_one _ _ _) ?_
   have hx1 : Blk (w4.setRow G (SC v4 rest4 nj2).toArray) w.heap.size 29 (B8 (List.replicate 16 0)) := (f1.below hS2 f1.lt).setRow (Nat.ne_of_lt hlt2) _
   have hx2 : Blk (w4.setRow G (SC v4 rest4 nj2).toArray) G 151 (SC v4 rest4 nj2) := hg4.row _
   have hx3 : Hid (Below w.heap.size w (w4.setRow G (SC v4 rest4 nj2).toArray)) := Lh (belowRow (HB.out.trans (hS2.mono (Nat.le_of_lt f1.lt))) (Nat.le_of_lt hlt2) _)
   refine hK _ _ ?_
   clear hK K
   refine wpAny_done (by kernel_rfl) ?_ _
   try simp only [zp, zn, z1, z2, z3]
   go_wp2
   go_roundw
   case rel => exact ⟨j + 1, nj2, rest4, v4, by omega, by go_num, Hnj3, HP4, hx1, hx2, hx3⟩
   case measure => simp only [intOf]; omega
 ·
  have hall : l.take j = l := List.take_of_length_le (by have := HN.out; omega)
  have hp2 := hp.out
  have hnj2 := hnj.out
  rw [hall] at hp2 hnj2
  have HP2 := Lh hp2
  have HNJ := Lh hnj2
  have hRl : R.length = 32 := by rw [hR.out]; exact sha_len _
  have HRL := Lh hRl
  have HS73 := Lh (SC_len v rest nj hp2.hl)
  have H16 : Hid ((R.take 16).length = 16) := Lh (by simp; omega)
  have HS16 := Lh (show (Tryd.prog.info? 29).map (·.size) = some (B8 (R.take 16)).toArray.size by rw [List.size_toArray, B8_len, H16.out]; kernel_rfl)
  have HL16 := Lh (show (Tryd.prog.info? 29).map (·.size) = some (B8 (R.take 16)).length by rw [B8_len, H16.out]; kernel_rfl)
  have HZ16 := Lh (show (B8 (List.replicate 16 0)).toArray.size = (B8 (R.take 16)).toArray.size by rw [List.size_toArray, List.size_toArray, B8_len, B8_len, H16.out]; rfl)
  have HB32 := Lh (show (B8 R).length = 32 by rw [B8_len, hRl])
  have HLD := Lh f2.at
  have HTW := Lh (HT.out.below HB.out HT.out.1)
  have hat : ∀ (g : Nat) (W : World), (Instr.arrayAt 29 (.slice (some ⟨g, 0, none⟩) 16 32)).run Tryd.prog W = .ok (.pointer (some ⟨g, 0, none⟩)) W := fun g W => run_arrayAt W 29 5 16 _ 16 32 Tryd.underlying29 (by omega)
  have hnjs : nj ≤ 549755813888 := by rw [hnj2]; omega
  have HLT : ∀ (w1 : World) (old : Array Value), Hid (∀ i x, (B8 (R.take 16))[i]? = some x → ((w1.alloc (.cells old 145)).setRow w1.heap.size (B8 R).toArray).cell? ((⟨w1.heap.size, 0, none⟩ : Addr).add i) = some x) := fun w1 old => Lh (fun i x hx => by
   rw [Addr.add_lit, Nat.zero_add, cell_of_row _ _ _ _ _ _ (heap_setRow _ w1.heap.size (B8 R).toArray old 145 (heap_alloc_new w1 (.cells old 145)))]
   have hi := (List.getElem?_eq_some_iff.1 hx).1
   rw [B8_len, H16.out] at hi
   unfold B8 at hx
   rw [List.getElem?_map, List.getElem?_take, if_pos hi] at hx
   simp only [List.getElem?_toArray]
   unfold B8
   rw [List.getElem?_map]; exact hx)
  clear hp2 hnj2 hall hRl f2 hp hnj
  go_wp2_with (first
   | (with_reducible refine wpList_load_at rfl 151 (.tmp 5) rfl ⟨G, 0, none⟩ rfl (SC v rest nj) (.struct #[{ name := "value", type := 148, offset := 0, embedded := false, tag := "", pkgPath := "culprit/hash", byteOffset := 0 }, { name := "rest", type := 149, offset := 8, embedded := false, tag := "", pkgPath := "culprit/hash", byteOffset := 32 }, { name := "size", type := 139, offset := 72, embedded := false, tag := "", pkgPath := "culprit/hash", byteOffset := 96 }]) HLD.out Tryd.underlying151 rfl (size34 _ HS73.out) ?_)
   | (go_at_call 102; refine (ssum_go (inp t8 l) rest v nj _ HP2.out HNJ.out hnjs HTW.out R hR).mono ?_; rintro e w5 ⟨rfl, hb5⟩; have HB5 := Lh hb5; have HF := fun old : Array Value => Lh (show ((w5.alloc (.cells old 145)).setRow w5.heap.size (B8 R).toArray).heap[w.heap.size]? = some (.cells (B8 (List.replicate 16 0)).toArray 29 (0, 0)) from ((f1.below hb5 f1.lt).alloc _).setRow (Nat.ne_of_lt (f1.below hb5 f1.lt).lt) _); clear hb5)
   | (with_reducible refine wpList_store_row rfl 145 (.tmp 8) (.tmp 26) rfl w5.heap.size (B8 R).toArray rfl rfl 145 _ (heap_alloc_new w5 _) (size24' _ HRL.out) (by simp [HB32.out]) (one8 _) ?_)
   | (with_reducible refine wpList_load_at rfl 29 (.tmp 28) rfl ⟨w5.heap.size, 0, none⟩ rfl (B8 (R.take 16)) (.array 16 5) (HLT w5 _).out Tryd.underlying29 rfl HL16.out ?_)
   | (with_reducible refine wpList_store_row rfl 29 (.tmp 4) (.tmp 29) rfl w.heap.size (B8 (R.take 16)).toArray rfl rfl 29 _ (HF _).out HS16.out HZ16.out (one8 _) ?_))
  have hb5 : Below w.heap.size w w5 := HB.out.trans (HB5.out.mono (Nat.le_of_lt f1.lt))
  refine bodyPost_ret (v := .agg (B8 (R.take 16)).toArray) ?_ rfl ⟨rfl, belowRow (belowRow (hb5.alloc hb5.size _) hb5.size _) (Nat.le_refl _) _⟩
  have hr := fun old : Array Value => run_loadVar_row (P := Tryd.prog) _ w.heap.size 29 29 (B8 (R.take 16)).toArray (0, 0) (.array 16 5) (heap_setRow _ w.heap.size (B8 (R.take 16)).toArray _ 29 (HF old).out) Tryd.underlying29 rfl HS16.out
  simp [results, asAddr, hr, Act.put]
end Go.Proofs.YtofccgkgjcnfbaaDoor
