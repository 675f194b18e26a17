/-
  Contracts and words of several parts of the program (W1Put, W1RLists, W1Get, W1Len), one after the other.
  Conditions: those that each says.
-/
import Derived.Test.YtofccgkgjcnfbaaDoorGAuxPureIntPure2
import Derived.Test.YtofccgkgjcnfbaaDoorGIntsRootOne
import Derived.Test.YtofccgkgjcnfbaaDoorGPure3Put
import Derived.Lib.AppendStr
import Derived.Test.YtofccgkgjcnfbaaDoorZ
import Derived.Test.YtofccgkgjcnfbaaDoorRHash
import Derived.Deep.DeepCutAuto
import Derived.BigQuiet
import Derived.Laws.IdiomStrings
set_option linter.unusedSimpArgs false
namespace Go.Proofs.YtofccgkgjcnfbaaDoor.W1
open Go.RowKit Wr Sh
set_option maxRecDepth 100000
set_option linter.unusedVariables false
theorem size_list (s : ByteArray) : s.data.toList.length = s.size := by simp
set_option maxRecDepth 100000 in
set_option maxHeartbeats 400000 in
theorem appendBytes_any (v : Value) (s : ByteArray) (w : World) (B k : Nat) (xs : List UInt8) (hB : B ≤ w.heap.size) (hown : w.ownsRow B 5 1 v k (B8 xs))
  (hk : k ≤ 1099511627776) (hs : s.size ≤ 1099511627776) :
  Calls Tryd.prog 70 #[v, .string s] w fun e w' => ∃ v', e = .returned v' ∧ w'.ownsRow B 5 1 v' (k + (encStr s.data.toList).length) (B8 (xs ++ encStr s.data.toList)) ∧ Below B w w' := by
 obtain ⟨i0, hi0, hz0, hz1, hz2⟩ := info_parts Tryd.info5
 have hel := enc_le (s.size : Int)
 go_enter Tryd.func70, Tryd.ntmps70
 go_wp2_with (first
  | (go_at_call 69; refine (appendInt_any _ _ _ B k xs hB hown hk (by omega) (by omega)).mono ?_; rintro e w1 ⟨v1, rfl, ho1, hb1⟩)
  | (at_builtin; refine Lib.wpList_append_own_string _ rfl (.tmp 8) (.tmp 9) 39 9 rfl B 5 i0 Tryd.underlying39 Tryd.underlying9 hi0 hz0 hz1 hz2 v1 (k + (enc (s.size : Int)).length) (B8 (xs ++ enc (s.size : Int))) rfl ho1 s rfl (by unfold maxLen; omega) (by omega) (Nat.le_trans hB hb1.size) ?_; intro v2 w2 ho2 hg2 _))
 go_ret
 refine ⟨v2, rfl, ?_, hb1.grown hg2 (Nat.le_trans hB hb1.size) (fun q hq => (ho1.lt q hq).1)⟩
 unfold encStr
 rw [size_list, List.length_append, size_list, ← Nat.add_assoc, ← List.append_assoc, B8_append _ s.data.toList]
 exact ho2
set_option maxHeartbeats 400000 in
theorem bytes_any (s : ByteArray) (w : World) (hs : s.size ≤ 1099511627776) :
  Calls Tryd.prog 101 #[.string s] w fun e w' => ∃ v', e = .returned v' ∧ w'.ownsRow w.heap.size 5 1 v' (encStr s.data.toList).length (B8 (encStr s.data.toList)) ∧ Below w.heap.size w w' := by
 go_enter Tryd.func101, Tryd.ntmps101
 go_wp2_with (go_at_call 70; refine (appendBytes_any _ s _ w.heap.size 0 [] (Nat.le_refl _) (World.ownsRow_nil _ _ _ _) (by omega) hs).mono ?_; rintro e w' ⟨v', rfl, ho, hb⟩)
 go_ret
 exact ⟨v', rfl, by simpa using ho, hb⟩
def partE {α : Type} (e : α → List UInt8) (l : List α) (j : Nat) : List UInt8 := enc (l.length : Int) ++ ((l.take j).map e).flatten
theorem partE_zero {α : Type} (e : α → List UInt8) (l : List α) : partE e l 0 = enc (l.length : Int) := by simp [partE]
theorem partE_succ {α : Type} (e : α → List UInt8) (l : List α) (j : Nat) (h : j < l.length) : partE e l (j + 1) = partE e l j ++ e l[j] := by
 unfold partE
 rw [List.take_succ_eq_append_getElem h, List.map_append, List.flatten_append, ← List.append_assoc]
 simp only [List.map_cons, List.map_nil, List.flatten_cons, List.flatten_nil, List.append_nil]
theorem partE_all {α : Type} (e : α → List UInt8) (l : List α) : partE e l l.length = encList e l := by simp [partE, encList]
theorem partE_len {α : Type} (e : α → List UInt8) (l : List α) (m j : Nat) (h : ∀ x ∈ l, (e x).length ≤ m) (hj : j ≤ l.length) : (partE e l j).length ≤ 9 + m * j := by
 induction j with
 | zero => rw [partE_zero]; have := enc_le (l.length : Int); omega
 | succ j ih =>
  rw [partE_succ e l j (by omega), List.length_append]
  have := ih (by omega)
  have := h l[j] (List.getElem_mem _)
  rw [Nat.mul_succ]; omega
def I64 (l : List Int) : List Value := l.map (Value.int .i64)
def St (l : List ByteArray) : List Value := l.map Value.string
theorem I64_get (l : List Int) (j : Nat) (h : j < l.length) : (I64 l)[j]? = some (.int .i64 l[j]) := by simp [I64, h]
theorem St_get (l : List ByteArray) (j : Nat) (h : j < l.length) : (St l)[j]? = some (.string l[j]) := by simp [St, h]
set_option maxRecDepth 100000 in
set_option maxHeartbeats 400000 in
theorem ints_any (A : Option Addr) (l : List Int) (c : Nat) (w : World) (hr : Rd w w.heap.size A (I64 l)) (hc : l.length ≤ c) (hl : l.length ≤ 1073741824) (hi : ∀ x ∈ l, okInt x) :
  Calls Tryd.prog 40 #[.slice A l.length c] w fun e w' => ∃ v', e = .returned v' ∧ w'.ownsRow w.heap.size 5 1 v' (encInts l).length (B8 (encInts l)) ∧ Below w.heap.size w w' := by
 have hz := enc_le (l.length : Int)
 obtain ⟨N, hN⟩ : ∃ N, N = l.length := ⟨_, rfl⟩
 rw [← hN] at hc hl hz ⊢
 have HN := Lib.hid hN
 clear hN
 go_enter Tryd.func40, Tryd.ntmps40
 go_wp2_with (go_at_call 47; refine (int_any _ _ (by omega) (by omega)).mono ?_; rintro e w1 ⟨v1, rfl, ho1, hb1⟩)
 go_loopw [3, 11] (fun s3 s11 wr => ∃ j : Nat, j ≤ N ∧ s11 = .int .i64 j ∧ wr.ownsRow w.heap.size 5 1 s3 (partE enc l j).length (B8 (partE enc l j)) ∧ Below w.heap.size w wr)
  (fun _ s11 _ => N - (intOf s11).toNat)
 case atStart => exact ⟨0, Nat.zero_le _, rfl, by rw [partE_zero, ← HN.out]; exact ho1, hb1⟩
 case round =>
  obtain ⟨j, hj, rfl, ho, hb⟩ := hrel
  by_cases hlt : j < N
  ·
   have hjl : j < l.length := by have := HN.out; omega
   obtain ⟨g, o, rfl, hg, hcell⟩ := (hr.below hb) (by intro e; have := congrArg List.length e; simp only [I64, List.length_map, List.length_nil] at this; omega)
   have hcj : wr.cell? ⟨g, o + j, none⟩ = some (.int .i64 l[j]) := hcell j _ (I64_get l j hjl)
   have hb2 := hi l[j] (List.getElem_mem _)
   have hb3 := partE_len enc l 9 j (fun x _ => (enc_le x).2) (by have := HN.out; omega)
   have hsz := hb.size
   have HP := Lib.hid (partE_succ enc l j hjl)
   clear hcell
   go_wp2_with (go_at_call 69; refine (appendInt_any _ _ _ w.heap.size _ _ hsz ho (by omega) hb2.1 hb2.2).mono ?_; rintro e w2 ⟨v2, rfl, ho2, hbb2⟩)
   go_roundw
   case rel => exact ⟨j + 1, by omega, by go_num, by rw [HP.out, List.length_append]; exact ho2, hb.trans hbb2⟩
   case measure => simp only [intOf]; omega
  ·
   obtain rfl : j = N := by omega
   go_wp2_with fail
   go_ret
   exact ⟨_, rfl, by unfold encInts; rw [← partE_all, ← HN.out]; exact ho, hb⟩
theorem partE_le {α : Type} (e : α → List UInt8) (l : List α) (j : Nat) (hj : j ≤ l.length) : (partE e l j).length ≤ (encList e l).length := by
 have h : encList e l = partE e l j ++ ((l.drop j).map e).flatten := by
  unfold encList partE
  rw [List.append_assoc, ← List.flatten_append, ← List.map_append, List.take_append_drop]
 rw [h, List.length_append]
 omega
def bs (l : List ByteArray) : List (List UInt8) := l.map (·.data.toList)
theorem bs_len (l : List ByteArray) : (bs l).length = l.length := by simp [bs]
set_option maxRecDepth 100000 in
set_option maxHeartbeats 400000 in
theorem strings_any (A : Option Addr) (l : List ByteArray) (c : Nat) (w : World) (hr : Rd w w.heap.size A (St l)) (hc : l.length ≤ c) (hl : l.length ≤ 1073741824) (hsum : (encStrs (bs l)).length ≤ 1073741824) (hi : ∀ x ∈ l, x.size ≤ 1073741824) :
  Calls Tryd.prog 41 #[.slice A l.length c] w fun e w' => ∃ v', e = .returned v' ∧ w'.ownsRow w.heap.size 5 1 v' (encStrs (bs l)).length (B8 (encStrs (bs l))) ∧ Below w.heap.size w w' := by
 have hz := enc_le (l.length : Int)
 obtain ⟨N, hN⟩ : ∃ N, N = l.length := ⟨_, rfl⟩
 rw [← hN] at hc hl hz ⊢
 have HN := Lib.hid hN
 clear hN
 go_enter Tryd.func41, Tryd.ntmps41
 go_wp2_with (go_at_call 47; refine (int_any _ _ (by omega) (by omega)).mono ?_; rintro e w1 ⟨v1, rfl, ho1, hb1⟩)
 go_loopw [3, 11] (fun s3 s11 wr => ∃ j : Nat, j ≤ N ∧ s11 = .int .i64 j ∧ wr.ownsRow w.heap.size 5 1 s3 (partE encStr (bs l) j).length (B8 (partE encStr (bs l) j)) ∧ Below w.heap.size w wr)
  (fun _ s11 _ => N - (intOf s11).toNat)
 case atStart => exact ⟨0, Nat.zero_le _, rfl, by rw [partE_zero, bs_len, ← HN.out]; exact ho1, hb1⟩
 case round =>
  obtain ⟨j, hj, rfl, ho, hb⟩ := hrel
  by_cases hlt : j < N
  ·
   have hjl : j < l.length := by have := HN.out; omega
   obtain ⟨g, o, rfl, hg, hcell⟩ := (hr.below hb) (by intro e; have := congrArg List.length e; simp only [St, List.length_map, List.length_nil] at this; omega)
   have hcj : wr.cell? ⟨g, o + j, none⟩ = some (.string l[j]) := hcell j _ (St_get l j hjl)
   have hb2 := hi l[j] (List.getElem_mem _)
   have hb3 := partE_le encStr (bs l) j (by rw [bs_len]; omega)
   unfold encStrs at hsum
   have hsz := hb.size
   have hP := partE_succ encStr (bs l) j (by rw [bs_len]; omega)
   have hbj : (bs l)[j]'(by rw [bs_len]; omega) = l[j].data.toList := by simp [bs]
   rw [hbj] at hP
   have HP := Lib.hid hP
   clear hcell hP hbj
   go_wp2_with (go_at_call 70; refine (appendBytes_any _ _ _ w.heap.size _ _ hsz ho (by omega) (by omega)).mono ?_; rintro e w2 ⟨v2, rfl, ho2, hbb2⟩)
   go_roundw
   case rel => exact ⟨j + 1, by omega, by go_num, by rw [HP.out, List.length_append]; exact ho2, hb.trans hbb2⟩
   case measure => simp only [intOf]; omega
  ·
   obtain rfl : j = N := by omega
   go_wp2_with fail
   go_ret
   exact ⟨_, rfl, by unfold encStrs; rw [← partE_all, bs_len, ← HN.out]; exact ho, hb⟩
theorem size57 (d : List UInt8) (h : d.length = 16) : (Tryd.prog.info? 29).map (·.size) = some (B8 d).length := by
 rw [B8_len, h]; kernel_rfl
theorem size57' (d : List UInt8) (h : d.length = 16) : (Tryd.prog.info? 29).map (·.size) = some (B8 d).toArray.size := size57 d h
theorem one57 (d : List UInt8) : (B8 d).toArray.all (·.oneCell') = true := by
 rw [Array.all_eq_true_iff_forall_mem]; intro u hu; exact B8_one d u (by simpa using hu)
theorem slice_all (g : Nat) (W : World) : (Instr.sliceAt 29 (.pointer (some ⟨g, 0, none⟩)) none none none).run Tryd.prog W = .ok (.slice (some ⟨g, 0, none⟩) 16 16) W := by
 have h9 : Tryd.prog.arrayLen 29 = 16 := by kernel_rfl
 have he : Tryd.prog.elem 29 = 5 := by kernel_rfl
 have hu : Tryd.prog.underlying 29 = some (.array (Tryd.prog.arrayLen 29) (Tryd.prog.elem 29)) := by kernel_rfl
 have h5 : (sizeOf 5).run Tryd.prog W = .ok 1 W := by kernel_rfl
 rw [run_sliceAt_array_all W 29 ⟨g, 0, none⟩ hu, he, h5, h9]
 simp only [Result.andThen, slicedAt]
 rw [if_neg (by omega), Addr.add_lit]
def Dg (l : List (List UInt8)) : List Value := B8 l.flatten
theorem flat_len (l : List (List UInt8)) (h : ∀ x ∈ l, okDig x) : l.flatten.length = 16 * l.length := by
 induction l with
 | nil => rfl
 | cons x l ih =>
  have h1 : x.length = 16 := h x (by simp)
  rw [List.flatten_cons, List.length_append, ih (fun y hy => h y (by simp [hy])), h1, List.length_cons]; omega
theorem flat_at (l : List (List UInt8)) (h : ∀ x ∈ l, okDig x) (j : Nat) (hj : j < l.length) (i : Nat) (hi : i < l[j].length) : l.flatten[16 * j + i]? = some l[j][i] := by
 have hs : l.flatten = (l.take j).flatten ++ (l[j] ++ (l.drop (j + 1)).flatten) := by
  rw [← List.flatten_cons, ← List.drop_eq_getElem_cons hj, ← List.flatten_append, List.take_append_drop]
 have hl : (l.take j).flatten.length = 16 * j := by
  rw [flat_len _ (fun x hx => h x (List.mem_of_mem_take hx))]; simp; omega
 rw [hs, List.getElem?_append_right (by omega), hl, Nat.add_sub_cancel_left, List.getElem?_append_left hi, List.getElem?_eq_getElem hi]
theorem Dg_at (l : List (List UInt8)) (h : ∀ x ∈ l, okDig x) (j : Nat) (hj : j < l.length) (i : Nat) (u : Value) (hu : (B8 l[j])[i]? = some u) : (Dg l)[j * 16 + i]? = some u := by
 have hi : i < l[j].length := by have := (List.getElem?_eq_some_iff.1 hu).1; simpa [B8] using this
 unfold Dg B8
 rw [List.getElem?_map, Nat.mul_comm, flat_at l h j hj i hi]
 rw [B8_get _ _ hi] at hu
 simpa using hu
set_option maxRecDepth 100000 in
set_option maxHeartbeats 400000 in
theorem digests_any (A : Option Addr) (l : List (List UInt8)) (c : Nat) (w : World) (hr : Rd w w.heap.size A (Dg l)) (hc : l.length ≤ c) (hl : l.length ≤ 67108864) (hi : ∀ x ∈ l, okDig x) :
  Calls Tryd.prog 62 #[.slice A l.length c] w fun e w' => ∃ v', e = .returned v' ∧ w'.ownsRow w.heap.size 5 1 v' (encDigs l).length (B8 (encDigs l)) ∧ Below w.heap.size w w' := by
 obtain ⟨i0, hi0, hz0, hz1, hz2⟩ := info_parts Tryd.info5
 have hz := enc_le (l.length : Int)
 obtain ⟨N, hN⟩ : ∃ N, N = l.length := ⟨_, rfl⟩
 rw [← hN] at hc hl hz ⊢
 have HN := Lib.hid hN
 clear hN
 go_enter Tryd.func62, Tryd.ntmps62
 go_wp2_with (go_at_call 47; refine (int_any _ _ (by omega) (by omega)).mono ?_; rintro e w1 ⟨v1, rfl, ho1, hb1⟩)
 go_loopw [3, 11] (fun s3 s11 wr => ∃ j : Nat, j ≤ N ∧ s11 = .int .i64 j ∧ wr.ownsRow w.heap.size 5 1 s3 (partE (fun d : List UInt8 => d) l j).length (B8 (partE (fun d : List UInt8 => d) l j)) ∧ Below w.heap.size w wr)
  (fun _ s11 _ => N - (intOf s11).toNat)
 case atStart => exact ⟨0, Nat.zero_le _, rfl, by rw [partE_zero, ← HN.out]; exact ho1, hb1⟩
 case round =>
  obtain ⟨j, hj, rfl, ho, hb⟩ := hrel
  by_cases hlt : j < N
  ·
   have hjl : j < l.length := by have := HN.out; omega
   obtain ⟨g, o, rfl, hg, hcell⟩ := (hr.below hb) (by intro e; have := congrArg List.length e; simp only [Dg, B8, List.length_map, List.length_nil, flat_len l hi] at this; omega)
   have h16 : l[j].length = 16 := hi l[j] (List.getElem_mem _)
   have hcj : ∀ i u, (B8 l[j])[i]? = some u → wr.cell? ((⟨g, o + j * 16, none⟩ : Addr).add i) = some u := fun i u hu => by
    rw [Addr.add_lit, Nat.add_assoc]; exact hcell _ u (Dg_at l hi j hjl i u hu)
   have hb3 := partE_len (fun d : List UInt8 => d) l 16 j (fun x hx => by rw [hi x hx]; omega) (by omega)
   have hsz := hb.size
   have HP := Lib.hid (partE_succ (fun d : List UInt8 => d) l j hjl)
   have HC := Lib.hid hcj
   clear hcell hcj
   have hsl := slice_all wr.heap.size
   have Hnew := Lib.hid (fun (old : Array Value) => heap_setRow (wr.alloc (.cells old 29)) wr.heap.size (B8 l[j]).toArray old 29 (heap_alloc_new wr _))
   have Hbel := Lib.hid (fun (O : Obj) => belowRow ((Below.refl wr.heap.size wr).alloc (Nat.le_refl _) O) (Nat.le_refl _) (B8 l[j]).toArray)
   have Hown := Lib.hid (fun (O : Obj) => own_below ho (Hbel.out O))
   go_wp2_with (first
    | (with_reducible refine wpList_load_at rfl 29 (.tmp 13) rfl ⟨g, o + j * 16, none⟩ rfl (B8 l[j]) (.array 16 5) HC.out Tryd.underlying29 rfl (size57 _ h16) ?_)
    | (with_reducible refine wpList_store_row rfl 29 (.tmp 5) (.tmp 14) rfl wr.heap.size (B8 l[j]).toArray rfl rfl 29 _ (heap_alloc_new wr _) (size57' _ h16) (by simp [B8, h16]) (one57 _) ?_)
    | (at_builtin; go_loud (refine wpList_append_own _ rfl (.tmp 15) (.tmp 16) 39 rfl w.heap.size 5 i0 (.int .u8 0) 1 1 Tryd.underlying39 hi0 hz0 hz1 hz2 rfl (by decide) u3 _ _ rfl (Hown.out _) ⟨wr.heap.size, 0, none⟩ 16 16 (B8 l[j]) rfl ?c0 ?c1 ?c2 ?c3 ?c4 ?c5 ?_)))
   case c0 => rw [B8_len, h16]
   case c1 =>
    intro i u hu
    rw [Addr.add_lit, Nat.zero_add, cell_of_row _ _ _ _ _ _ (Hnew.out _)]
    simpa using hu
   case c2 => exact B8_one _
   case c3 => unfold maxLen; omega
   case c4 => omega
   case c5 => simp; omega
   ·
    intro v2 w2 ho2 hg2 _
    have hb2 := (hb.trans ((Hbel.out _).mono hsz)).grown hg2 (by simp; omega) (fun q hq => (ho.lt q hq).1)
    go_wp2
    go_roundw
    case rel => exact ⟨j + 1, by omega, by go_num, by rw [HP.out, List.length_append, h16, B8_append]; exact ho2, hb2⟩
    case measure => simp only [intOf]; omega
  ·
   obtain rfl : j = N := by omega
   go_wp2_with fail
   go_ret
   exact ⟨_, rfl, by unfold encDigs; rw [← partE_all, ← HN.out]; exact ho, hb⟩
end Go.Proofs.YtofccgkgjcnfbaaDoor.W1
namespace Go.Proofs.YtofccgkgjcnfbaaDoor.W1
open Go.RowKit Wr Sh
set_option maxRecDepth 100000
set_option linter.unusedVariables false
set_option maxRecDepth 100000 in
set_option maxHeartbeats 4000000 in
theorem rints_any (A : Option Addr) (l : List Int) (c : Nat) (w : World) (hr : Rd w w.heap.size A (I64 l)) (hl : l.length ≤ 1073741824) (hi : ∀ x ∈ l, okInt x) :
  Calls Tryd.prog 63 #[.slice A l.length c] w fun e w' => ∃ v', e = .returned v' ∧ w'.ownsRow w.heap.size 5 1 v' (encInts l).length (B8 (encInts l)) ∧ Below w.heap.size w w' := by
 obtain ⟨N, hN⟩ : ∃ N, N = l.length := ⟨_, rfl⟩
 rw [← hN] at hl ⊢
 have HN := Lh hN
 have HR := Lh hr
 have HI := Lh hi
 clear hN hr hi
 go_enter Tryd.func63, Tryd.ntmps63
 go_wp2_with (go_at_call 79; refine (rint_any _ _ (by omega) (by omega)).mono ?_; rintro e w1 ⟨v1, rfl, ho1, hb1⟩; have HO1 := Lh ho1; have HB1 := Lh hb1; clear ho1 hb1)
 go_loopw [3, 4] (fun s3 s4 wr => ∃ j k : Nat, j ≤ N ∧ s4 = .int .i64 j ∧ Hid (k = (partE enc l j).length) ∧ Hid (wr.ownsRow w.heap.size 5 1 s3 k (B8 (partE enc l j))) ∧ Hid (Below w.heap.size w wr))
  (fun _ s4 _ => N - (intOf s4).toNat)
 case atStart => exact ⟨0, _, Nat.zero_le _, rfl, Lh rfl, by rw [partE_zero, ← HN.out]; exact HO1, HB1⟩
 case round =>
  clear HO1 HB1
  obtain ⟨j, k, hj, rfl, HK, HO, HB⟩ := hrel
  by_cases hlt : j < N
  ·
   have hjl : j < l.length := by have := HN.out; omega
   obtain ⟨g, o, rfl, hg, hcell⟩ := HR.out (by intro e; have := congrArg List.length e; simp only [I64, List.length_map, List.length_nil] at this; omega)
   have hcj : wr.cell? ⟨g, o + j, none⟩ = some (.int .i64 l[j]) := by
    rw [HB.out.cell (show (⟨g, o + j, none⟩ : Addr).block < _ from hg)]; exact hcell j _ (I64_get l j hjl)
   have hb2 := HI.out l[j] (List.getElem_mem _)
   have hb3 := partE_len enc l 9 j (fun x _ => (enc_le x).2) (by have := HN.out; omega)
   rw [← HK.out] at hb3
   have HP := Lh (partE_succ enc l j hjl)
   obtain ⟨x, hx⟩ : ∃ x, x = l[j] := ⟨_, rfl⟩
   rw [← hx] at hcj hb2 HP
   have he9 := enc_le x
   obtain ⟨L, hL⟩ : ∃ L, L = (enc x).length := ⟨_, rfl⟩
   rw [← hL] at he9
   have HL := Lh hL
   clear hcell hx hL
   go_wp2_with (first
    | (go_at_call 79; refine (rint_any _ _ hb2.1 hb2.2).mono ?_; rintro e w2 ⟨v2, rfl, ho2, hb2'⟩; obtain ⟨A2, c2, rfl, _, hn2, hrd2⟩ := own_form ho2; have HRD := Lh hrd2; have HNL := Lh hn2; have HB2 := Lh hb2'; clear ho2 hb2' hrd2 hn2; rw [← HL.out])
    | (at_builtin; refine wpList_append_rd rfl (.tmp 14) (.tmp 19) rfl w.heap.size _ k _ rfl (own_below HO.out HB2.out) A2 L c2 _ (enc x) rfl HNL.out HL.out.symm HRD.out (by omega) (Nat.le_trans HB.out.size HB2.out.size) ?_; intro v3 w3 ho3 hg3; have HO3 := Lh ho3; have HB3 := Lh ((HB.out.trans (HB2.out.mono HB.out.size)).grown hg3 (Nat.le_trans HB.out.size HB2.out.size) (fun q hq => (HO.out.lt q hq).1)); clear ho3 hg3))
   go_roundw
   case rel =>
    refine ⟨j + 1, k + L, hlt, by go_num, Lh (by rw [HP.out, List.length_append, ← HK.out, ← HL.out]), Lh ?_, HB3⟩
    have := HO3.out
    rw [← B8_append] at this
    rw [HP.out]
    exact this
   case measure => simp only [intOf]; omega
  ·
   obtain rfl : j = N := by omega
   go_wp2_with fail
   go_ret
   refine ⟨_, rfl, ?_, HB.out⟩
   have h := HO.out
   rw [HK.out, HN.out, partE_all] at h
   exact h
set_option maxRecDepth 100000 in
set_option maxHeartbeats 4000000 in
theorem rstrings_any (A : Option Addr) (l : List ByteArray) (c : Nat) (w : World) (hr : Rd w w.heap.size A (St l)) (hl : l.length ≤ 1073741824) (hsum : (encStrs (bs l)).length ≤ 1073741824) (hi : ∀ x ∈ l, x.size ≤ 1073741824) :
  Calls Tryd.prog 64 #[.slice A l.length c] w fun e w' => ∃ v', e = .returned v' ∧ w'.ownsRow w.heap.size 5 1 v' (encStrs (bs l)).length (B8 (encStrs (bs l))) ∧ Below w.heap.size w w' := by
 obtain ⟨N, hN⟩ : ∃ N, N = l.length := ⟨_, rfl⟩
 rw [← hN] at hl ⊢
 have HN := Lh hN
 have HR := Lh hr
 have HI := Lh hi
 have HS := Lh hsum
 clear hN hr hi hsum
 go_enter Tryd.func64, Tryd.ntmps64
 go_wp2_with (go_at_call 79; refine (rint_any _ _ (by omega) (by omega)).mono ?_; rintro e w1 ⟨v1, rfl, ho1, hb1⟩; have HO1 := Lh ho1; have HB1 := Lh hb1; clear ho1 hb1)
 go_loopw [3, 4] (fun s3 s4 wr => ∃ j k : Nat, j ≤ N ∧ s4 = .int .i64 j ∧ Hid (k = (partE encStr (bs l) j).length) ∧ Hid (wr.ownsRow w.heap.size 5 1 s3 k (B8 (partE encStr (bs l) j))) ∧ Hid (Below w.heap.size w wr))
  (fun _ s4 _ => N - (intOf s4).toNat)
 case atStart => exact ⟨0, _, Nat.zero_le _, rfl, Lh rfl, by rw [partE_zero, bs_len, ← HN.out]; exact HO1, HB1⟩
 case round =>
  clear HO1 HB1
  obtain ⟨j, k, hj, rfl, HK, HO, HB⟩ := hrel
  by_cases hlt : j < N
  ·
   have hjl : j < l.length := by have := HN.out; omega
   obtain ⟨g, o, rfl, hg, hcell⟩ := HR.out (by intro e; have := congrArg List.length e; simp only [St, List.length_map, List.length_nil] at this; omega)
   have hcj : wr.cell? ⟨g, o + j, none⟩ = some (.string l[j]) := by
    rw [HB.out.cell (show (⟨g, o + j, none⟩ : Addr).block < _ from hg)]; exact hcell j _ (St_get l j hjl)
   have hb2 := HI.out l[j] (List.getElem_mem _)
   have hjb : j < (bs l).length := by rw [bs_len]; exact hjl
   have hp := partE_succ encStr (bs l) j hjb
   have hle := partE_le encStr (bs l) (j + 1) hjb
   have hbj : (bs l)[j] = l[j].data.toList := by simp [bs]
   rw [hbj] at hp
   obtain ⟨x, hx⟩ : ∃ x, x = l[j] := ⟨_, rfl⟩
   rw [← hx] at hcj hb2 hp
   obtain ⟨L, hL⟩ : ∃ L, L = (encStr x.data.toList).length := ⟨_, rfl⟩
   have hkL : k + L ≤ 1073741824 := by
    have hs : (encList encStr (bs l)).length ≤ 1073741824 := HS.out
    rw [hp, List.length_append, ← HK.out, ← hL] at hle
    omega
   have HP := Lh hp
   have HL := Lh hL
   have hx40 : x.size ≤ 1099511627776 := by omega
   clear hcell hx hL hp hle hbj hjb
   go_wp2_with (first
    | (go_at_call 88; refine (rbytes_any _ _ hx40).mono ?_; rintro e w2 ⟨v2, rfl, ho2, hb2'⟩; obtain ⟨A2, c2, rfl, _, hn2, hrd2⟩ := own_form ho2; have HRD := Lh hrd2; have HNL := Lh hn2; have HB2 := Lh hb2'; clear ho2 hb2' hrd2 hn2; rw [← HL.out])
    | (at_builtin; refine wpList_append_rd rfl (.tmp 14) (.tmp 19) rfl w.heap.size _ k _ rfl (own_below HO.out HB2.out) A2 L c2 _ (encStr x.data.toList) rfl HNL.out HL.out.symm HRD.out (by omega) (Nat.le_trans HB.out.size HB2.out.size) ?_; intro v3 w3 ho3 hg3; have HO3 := Lh ho3; have HB3 := Lh ((HB.out.trans (HB2.out.mono HB.out.size)).grown hg3 (Nat.le_trans HB.out.size HB2.out.size) (fun q hq => (HO.out.lt q hq).1)); clear ho3 hg3))
   go_roundw
   case rel =>
    refine ⟨j + 1, k + L, hlt, by go_num, Lh (by rw [HP.out, List.length_append, ← HK.out, ← HL.out]), Lh ?_, HB3⟩
    have := HO3.out
    rw [← B8_append] at this
    rw [HP.out]
    exact this
   case measure => simp only [intOf]; omega
  ·
   obtain rfl : j = N := by omega
   go_wp2_with fail
   go_ret
   refine ⟨_, rfl, ?_, HB.out⟩
   have h := HO.out
   rw [HK.out, HN.out, ← bs_len, partE_all] at h
   exact h
set_option maxRecDepth 100000 in
set_option maxHeartbeats 4000000 in
theorem rdigests_any (A : Option Addr) (l : List (List UInt8)) (c : Nat) (w : World) (hr : Rd w w.heap.size A (Dg l)) (hl : l.length ≤ 67108864) (hi : ∀ x ∈ l, okDig x) :
  Calls Tryd.prog 65 #[.slice A l.length c] w fun e w' => ∃ v', e = .returned v' ∧ w'.ownsRow w.heap.size 5 1 v' (encDigs l).length (B8 (encDigs l)) ∧ Below w.heap.size w w' := by
 obtain ⟨N, hN⟩ : ∃ N, N = l.length := ⟨_, rfl⟩
 rw [← hN] at hl ⊢
 have HN := Lh hN
 have HR := Lh hr
 have HI := Lh hi
 clear hN hr hi
 go_enter Tryd.func65, Tryd.ntmps65
 go_wp2_with (go_at_call 79; refine (rint_any _ _ (by omega) (by omega)).mono ?_; rintro e w1 ⟨v1, rfl, ho1, hb1⟩; have HO1 := Lh ho1; have HB1 := Lh hb1; clear ho1 hb1)
 go_loopw [3, 4] (fun s3 s4 wr => ∃ j k : Nat, j ≤ N ∧ s4 = .int .i64 j ∧ Hid (k = (partE (fun d : List UInt8 => d) l j).length) ∧ Hid (wr.ownsRow w.heap.size 5 1 s3 k (B8 (partE (fun d : List UInt8 => d) l j))) ∧ Hid (Below w.heap.size w wr))
  (fun _ s4 _ => N - (intOf s4).toNat)
 case atStart => exact ⟨0, _, Nat.zero_le _, rfl, Lh rfl, by rw [partE_zero, ← HN.out]; exact HO1, HB1⟩
 case round =>
  clear HO1 HB1
  rename World => wa
  obtain ⟨j, k, hj, rfl, HK, HO, HB⟩ := hrel
  by_cases hlt : j < N
  ·
   have hjl : j < l.length := by have := HN.out; omega
   have h16 : l[j].length = 16 := HI.out l[j] (List.getElem_mem _)
   obtain ⟨D, hD⟩ : ∃ D, D = l[j] := ⟨_, rfl⟩
   have hb3 := partE_len (fun d : List UInt8 => d) l 16 j (fun x hx => by rw [HI.out x hx]; omega) (by omega)
   rw [← HK.out] at hb3
   have hp := partE_succ (fun d : List UInt8 => d) l j hjl
   rw [← hD] at h16 hp
   have HP := Lh hp
   have HD16 := Lh h16
   obtain ⟨g, o, rfl, hg, hcell⟩ := HR.out (by intro e; have := congrArg List.length e; simp only [Dg, B8, List.length_map, List.length_nil, flat_len l HI.out] at this; omega)
   have HC := Lh (show ∀ W, Below w.heap.size w W → ∀ i u, (B8 D)[i]? = some u → W.cell? ⟨g, o + j * 16 + i, none⟩ = some u from fun W hW i u hu => by
    rw [hD] at hu
    rw [hW.cell (show (⟨g, o + j * 16 + i, none⟩ : Addr).block < _ from hg), Nat.add_assoc]
    exact hcell _ u (Dg_at l HI.out j hjl i u hu))
   have hjN : (j : Int) < (N : Int) := by omega
   clear hcell hD hp h16
   go_wp2_with fail
   go_loopw [3, 5] (fun s3 s5 wr => ∃ i : Nat, i ≤ 16 ∧ s5 = .int .i64 i ∧ Hid (wr.ownsRow w.heap.size 5 1 s3 (k + i) (B8 (partE (fun d : List UInt8 => d) l j ++ D.take i))) ∧ Hid (Below w.heap.size w wr)) (fun _ s5 _ => 16 - (intOf s5).toNat)
   case atStart => exact ⟨0, by omega, rfl, by rw [List.take_zero, List.append_nil]; exact HO, HB⟩
   case round =>
    clear HO HB
    rename World => wr
    obtain ⟨i, hi, rfl, HO, HB⟩ := hrel
    by_cases hi16 : i < 16
    ·
     have hiD : i < D.length := by have := HD16.out; omega
     obtain ⟨x, hx⟩ : ∃ x, x = D[i] := ⟨_, rfl⟩
     have cx : wr.cell? ⟨g, o + j * 16 + i, none⟩ = some (.int .u8 (x.toNat : Int)) := HC.out wr HB.out i _ (by rw [B8_get _ _ hiD, hx])
     have HT := Lh (show D.take (i + 1) = D.take i ++ [x] by rw [List.take_succ_eq_append_getElem hiD, hx])
     have hi16' : (i : Int) < 16 := by omega
     clear hx
     go_wp2_with (at_builtin; refine wpList_append_rd rfl (.tmp 19) (.tmp 26) rfl w.heap.size _ (k + i) _ rfl (HO.out.alloc _) (some ⟨wr.heap.size, 0, none⟩) 1 1 _ [x] rfl (fun h => by cases h) rfl (rd_lit wr x) (by omega) (by have := HB.out.size; simp; omega) ?_; intro v4 w4 ho4 hg4; have HO4 := Lh ho4; have HB4 := Lh ((HB.out.alloc HB.out.size (.cells #[.int .u8 (x.toNat : Int)] 5)).grown hg4 (HB.out.alloc HB.out.size _).size (fun q hq => (HO.out.lt q hq).1)); clear ho4 hg4)
     go_roundw
     case rel =>
      refine ⟨i + 1, by omega, by go_num, Lh ?_, HB4⟩
      have := HO4.out
      rw [← B8_append, List.append_assoc, ← HT.out] at this
      exact this
     case measure => simp only [intOf]; omega
    ·
     obtain rfl : i = 16 := by omega
     have HF := Lh (show D.take 16 = D from List.take_of_length_le (by rw [HD16.out]; exact Nat.le_refl _))
     go_wp2_with fail
     go_roundw
     case rel =>
      refine ⟨j + 1, k + 16, hlt, by go_num, Lh (by rw [HP.out, List.length_append, ← HK.out, HD16.out]), Lh ?_, HB⟩
      have := HO.out
      rw [HF.out, ← HP.out] at this
      exact this
     case measure => simp only [intOf]; omega
  ·
   obtain rfl : j = N := by omega
   go_wp2_with fail
   go_ret
   refine ⟨_, rfl, ?_, HB.out⟩
   have h := HO.out
   rw [HK.out, HN.out, partE_all] at h
   exact h
end Go.Proofs.YtofccgkgjcnfbaaDoor.W1
namespace Go.Proofs.YtofccgkgjcnfbaaDoor.W1
open Go.RowKit Wr Sh
set_option maxRecDepth 100000
set_option linter.unusedVariables false
theorem or_byte (v : Nat) (a b : UInt8) (hv : v < 72057594037927936) : bits BinOp.or IntKind.u64 (IntKind.u64.wrap ((v : Int) * 256)) (IntKind.u64.wrap ((a.toNat ^^^ b.toNat : Nat) : Int)) = ((v * 256 + (a ^^^ b).toNat : Nat) : Int) := by
 have hx : a.toNat ^^^ b.toNat = (a ^^^ b).toNat := by rw [UInt8.toNat_xor]
 have hl := (a ^^^ b).toNat_lt
 rw [hx]
 have e1 : IntKind.u64.wrap ((v : Int) * 256) = ((v * 256 : Nat) : Int) := by rw [wrap_u64]; omega
 have e2 : IntKind.u64.wrap (((a ^^^ b).toNat : Nat) : Int) = (((a ^^^ b).toNat : Nat) : Int) := by rw [wrap_u64]; omega
 rw [e1, e2, u64_or_nat _ _ (by omega) (by omega), nat_join 8 _ _ (by omega) (by omega)]
theorem val_take (l : List UInt8) (f : UInt8) (j : Nat) (h : j < l.length) : val ((l.take (j + 1)).map (· ^^^ f)) = val ((l.take j).map (· ^^^ f)) * 256 + (l[j] ^^^ f).toNat := by
 rw [List.take_succ_eq_append_getElem h, List.map_append, List.map_singleton, val_snoc]
theorem back_neg (m : Nat) (h : ¬ 9223372036854775807 < m) : wrap64 (bits BinOp.xor IntKind.u64 IntKind.u64.max (m : Int)) = -1 - (m : Int) := by
 rw [max_u64, u64_xor_nat _ _ (by omega) (by omega), xor_max _ (by omega)]
 unfold wrap64
 omega
section
variable {h f : UInt8} {t : List UInt8} {K m : Nat}
theorem dec_big (hK : K = cnt h) (h8 : 8 < K) : decInt (h :: t) = (0, 0, 2) := by
 rw [hK] at h8; rw [decInt_cons, if_pos h8]
theorem dec_short (hK : K = cnt h) (h8 : ¬ 8 < K) (hs : t.length < K) : decInt (h :: t) = (0, 0, 3) := by
 rw [hK] at h8 hs; rw [decInt_cons, if_neg h8, if_pos hs]
theorem dec_bad (hK : K = cnt h) (hf : f = flag h) (hm : m = val ((t.take K).map (· ^^^ f))) (h8 : ¬ 8 < K) (hs : ¬ t.length < K) (hb : (0 < K ∧ t.head? = some f) ∨ maxI < m) : decInt (h :: t) = (0, 0, 2) := by
 rw [hm, hf, hK] at hb; rw [hK] at h8 hs; rw [decInt_cons, if_neg h8, if_neg hs, if_pos hb]
theorem dec_ok (hK : K = cnt h) (hf : f = flag h) (hm : m = val ((t.take K).map (· ^^^ f))) (h8 : ¬ 8 < K) (hs : ¬ t.length < K) (hb : ¬ ((0 < K ∧ t.head? = some f) ∨ maxI < m)) :
  decInt (h :: t) = (if f = 0 then (m : Int) else -1 - (m : Int), 1 + K, 0) := by
 rw [hm, hf, hK] at hb; rw [hK] at h8 hs; rw [decInt_cons, if_neg h8, if_neg hs, if_neg hb, hm, hf, hK]
end
set_option maxRecDepth 100000 in
set_option maxHeartbeats 1000000 in
theorem getInt_any (A : Option Addr) (b : List UInt8) (c : Nat) (w : World) (B : Nat) (hr : Rd w B A (B8 b)) (hc : b.length ≤ c) (hl : b.length ≤ 1099511627776) :
  Calls Tryd.prog 90 #[.slice A b.length c] w fun e w' => e = .returned (.tuple #[.int .i64 (decInt b).1, .int .i64 ((decInt b).2.1 : Nat), .int .i64 ((decInt b).2.2 : Nat)]) ∧ w = w' := by
 cases b with
 | nil =>
  go_enter Tryd.func90, Tryd.ntmps90
  go_wp2
  go_ret3
  exact ⟨rfl, rfl⟩
 | cons h t =>
  obtain ⟨g, o, rfl, hg, hcell⟩ := hr (by simp [B8])
  have hc0 : w.cell? ⟨g, o, none⟩ = some (.int .u8 (h.toNat : Int)) := hcell 0 _ (by simp [B8])
  have Hcell := Lib.hid hcell
  obtain ⟨N, hN⟩ : ∃ N, N = t.length := ⟨_, rfl⟩
  rw [List.length_cons, ← hN] at hc hl ⊢
  have HN := Lib.hid hN
  obtain ⟨f, hf⟩ : ∃ f, f = flag h := ⟨_, rfl⟩
  obtain ⟨K, hK⟩ : ∃ K, K = cnt h := ⟨_, rfl⟩
  have hxor : bits BinOp.xor IntKind.u8 (h.toNat : Int) (f.toNat : Int) = (K : Int) + 128 := by rw [xor8, hf, cnt_eq, hK]; rfl
  have hfc := flag_cases h
  rw [← hf] at hfc
  have hK2 : K < 128 := by have := cnt_eq h; have := (h ^^^ flag h).toNat_lt; omega
  have HK := Lib.hid hK
  have HF := Lib.hid hf
  clear hK hf hN hcell hr
  go_enter Tryd.func90, Tryd.ntmps90
  go_upto_if 17 with (fail)
  go_cut [5] (fun s5 wx => s5 = .int .u8 f.toNat ∧ w = wx)
  case first =>
   clear hxor
   rcases hfc with ⟨hf0, hh⟩ | ⟨hf0, hh⟩
   ·
    have Hf0 := Lib.hid hf0
    clear hf0
    go_wp2_with fail
    go_meet
    exact ⟨by rw [Hf0.out]; rfl, rfl⟩
   ·
    have Hf0 := Lib.hid hf0
    clear hf0
    go_wp2_with fail
    go_meet
    exact ⟨by rw [Hf0.out]; rfl, rfl⟩
  case rest =>
   obtain ⟨rfl, rfl⟩ := hcut
   clear hfc
   by_cases h8 : 8 < K
   ·
    go_wp2_with fail
    go_ret3
    refine ⟨?_, rfl⟩
    rw [dec_big HK.out h8]; rfl
   by_cases hs : N < K
   ·
    go_wp2_with fail
    go_ret3
    refine ⟨?_, rfl⟩
    rw [dec_short HK.out h8 (by rw [← HN.out]; exact hs)]; rfl
   have hA : ∃ A', (∀ j : Nat, j < K → A' = some (⟨g, o + 1, none⟩ : Addr)) ∧ ∀ W : World, (Instr.sliceAt 39 (.slice (some ⟨g, o, none⟩) (N + 1) c) (some (.int .i64 1)) (some (.int .i64 (1 + (K : Int)))) none).run Tryd.prog W = .ok (.slice A' K (c - 1)) W := by
    refine ⟨if c = 1 then some ⟨g, o, none⟩ else some ⟨g, o + 1, none⟩, fun j hj => if_neg (by omega), fun W => ?_⟩
    have hu : Tryd.prog.underlying 39 = some (.slice (Tryd.prog.elem 39)) := by kernel_rfl
    have he : Tryd.prog.elem 39 = 5 := by kernel_rfl
    have h5 : (sizeOf 5).run Tryd.prog W = .ok 1 W := by kernel_rfl
    rw [run_sliceAt_slice W 39 _ _ _ _ hu, run_slice_lh W 39 (some ⟨g, o, none⟩) (N + 1) c hu .i64 .i64 1 (1 + (K : Int)) (by omega) (by omega) (by omega), he, h5]
    simp only [Result.andThen, sliced]
    have e1 : (1 + (K : Int)).toNat - (1 : Int).toNat = K := by omega
    rw [e1]
    by_cases hc1 : c = 1
    ·
     simp [hc1]
    ·
     simp [hc1, Addr.add_lit]
   obtain ⟨A', hA1, hsl⟩ := hA
   have HA1 := Lib.hid hA1
   clear hA1
   go_wp2_with fail
   go_loop [7, 37] (fun s7 s37 => ∃ j : Nat, j ≤ K ∧ s37 = .int .i64 j ∧ s7 = .int .u64 (val ((t.take j).map (· ^^^ f)) : Nat)) (fun _ s37 => K - (intOf s37).toNat)
   case atStart => exact ⟨0, Nat.zero_le _, rfl, rfl⟩
   case round =>
    obtain ⟨j, hj, rfl, rfl⟩ := hrel
    by_cases hjK : j < K
    ·
     have hA2 := HA1.out j hjK
     subst hA2
     have hjt : j < t.length := by have := HN.out; omega
     have hcj : w.cell? ⟨g, o + 1 + j, none⟩ = some (.int .u8 (t[j].toNat : Int)) := by rw [Nat.add_assoc]; exact Hcell.out (1 + j) _ (by simp [B8, Nat.add_comm 1 j, hjt])
     have hx := xor8 t[j] f
     have hv : val ((t.take j).map (· ^^^ f)) < 72057594037927936 := by
      have h1 := val_lt ((t.take j).map (· ^^^ f))
      have h2 : 256 ^ ((t.take j).map (· ^^^ f)).length ≤ 256 ^ 7 := Nat.pow_le_pow_right (by decide) (by simp; omega)
      have h3 : (256 : Nat) ^ 7 = 72057594037927936 := by decide
      omega
     go_wp2_with fail
     go_round
     case rel =>
      refine ⟨j + 1, hjK, by go_num, ?_⟩
      rw [← List.map_take, or_byte _ _ _ hv, val_take _ _ _ hjt]
     case measure => simp only [intOf]; omega
    ·
     obtain rfl : j = K := by omega
     clear hj hjK
     obtain ⟨m, hm⟩ : ∃ m, m = val ((t.take j).map (· ^^^ f)) := ⟨_, rfl⟩
     have hm1 : m < 18446744073709551616 := by
      have h1 := val_lt ((t.take j).map (· ^^^ f))
      have h2 : 256 ^ ((t.take j).map (· ^^^ f)).length ≤ 256 ^ 8 := Nat.pow_le_pow_right (by decide) (by simp; omega)
      rw [pow8] at h2
      omega
     rw [← hm]
     have HM := Lib.hid hm
     clear hm hxor hsl
     have hj0 : 0 < j ∨ j = 0 := by omega
     rcases hj0 with hj0 | hj0
     ·
      have hjt : 0 < t.length := by have := HN.out; omega
      have hc1 : w.cell? ⟨g, o + 1, none⟩ = some (.int .u8 (t[0].toNat : Int)) := Hcell.out 1 _ (by simp [B8, hjt])
      by_cases he : t[0] = f
      ·
       have hb : ((t[0].toNat : Int) == (f.toNat : Int)) = true := by rw [he]; simp
       have HE := Lib.hid he
       clear he
       go_wp2_with fail
       go_ret3
       refine ⟨?_, rfl⟩
       rw [dec_bad HK.out HF.out HM.out h8 (by rw [← HN.out]; exact hs) (.inl ⟨hj0, by rw [List.head?_eq_getElem?, List.getElem?_eq_getElem hjt, HE.out]⟩)]; rfl
      ·
       have hb : ((t[0].toNat : Int) == (f.toNat : Int)) = false := by
        rw [beq_eq_false_iff_ne]; intro e; exact he (UInt8.toNat.inj (by omega))
       by_cases hmx : 9223372036854775807 < m
       ·
        go_wp2_with fail
        go_ret3
        refine ⟨?_, rfl⟩
        rw [dec_bad HK.out HF.out HM.out h8 (by rw [← HN.out]; exact hs) (.inr hmx)]; rfl
       ·
        by_cases hf0 : f = 0
        ·
         have hfb : ((f.toNat : Int) != 0) = false := by rw [hf0]; rfl
         have Hf0 := Lib.hid hf0
         clear hf0
         go_wp2_with fail
         go_ret3
         refine ⟨?_, rfl⟩
         rw [dec_ok HK.out HF.out HM.out h8 (by rw [← HN.out]; exact hs) (by rw [List.head?_eq_getElem?, List.getElem?_eq_getElem hjt]; rintro (⟨_, e⟩ | e); exact he (Option.some.inj e); exact hmx e), if_pos Hf0.out]; rfl
        ·
         have hfb : ((f.toNat : Int) != 0) = true := by rw [bne_iff_ne]; intro e; exact hf0 (UInt8.toNat.inj (by simpa using e))
         go_wp2_with fail
         go_ret3
         refine ⟨?_, rfl⟩
         rw [dec_ok HK.out HF.out HM.out h8 (by rw [← HN.out]; exact hs) (by rw [List.head?_eq_getElem?, List.getElem?_eq_getElem hjt]; rintro (⟨_, e⟩ | e); exact he (Option.some.inj e); exact hmx e), if_neg hf0, ← back_neg m hmx]; rfl
     ·
      subst hj0
      obtain rfl : m = 0 := by rw [HM.out]; rfl
      by_cases hf0 : f = 0
      ·
       have hfb : ((f.toNat : Int) != 0) = false := by rw [hf0]; rfl
       have Hf0 := Lib.hid hf0
       clear hf0
       go_wp2_with fail
       go_ret3
       refine ⟨?_, rfl⟩
       rw [dec_ok HK.out HF.out HM.out h8 (by rw [← HN.out]; exact hs) (by rw [maxI_lt]; omega), if_pos Hf0.out]; rfl
      ·
       have hfb : ((f.toNat : Int) != 0) = true := by rw [bne_iff_ne]; intro e; exact hf0 (UInt8.toNat.inj (by simpa using e))
       go_wp2_with fail
       go_ret3
       refine ⟨?_, rfl⟩
       rw [dec_ok HK.out HF.out HM.out h8 (by rw [← HN.out]; exact hs) (by rw [maxI_lt]; omega), if_neg hf0, ← back_neg 0 (by omega)]; rfl
end Go.Proofs.YtofccgkgjcnfbaaDoor.W1
namespace Go.Proofs.YtofccgkgjcnfbaaDoor.W1
open Go.RowKit Wr Sh
set_option maxRecDepth 100000
set_option linter.unusedVariables false
theorem errB (x : Nat) (h : x ≠ 0) : ((x : Int) != 0) = true := by rw [bne_iff_ne]; omega
set_option maxRecDepth 100000 in
set_option maxHeartbeats 400000 in
theorem getLength_any (A : Option Addr) (b : List UInt8) (c least : Nat) (w : World) (B : Nat) (hr : Rd w B A (B8 b)) (hc : b.length ≤ c) (hl : b.length ≤ 1099511627776) (h1 : 1 ≤ least) (h2 : least ≤ 65536) :
  Calls Tryd.prog 106 #[.slice A b.length c, .int .i64 least] w fun e w' => e = .returned (.tuple #[.int .i64 ((decLen least b).1 : Nat), .int .i64 ((decLen least b).2.1 : Nat), .int .i64 ((decLen least b).2.2 : Nat)]) ∧ w = w' := by
 have hcall := getInt_any A b c w B hr hc hl
 rcases hd : decInt b with ⟨n, u, er⟩
 rw [hd] at hcall
 simp only at hcall
 have HC := Lib.hid hcall
 clear hcall
 by_cases he : er = 0
 ·
  subst he
  obtain ⟨b1, b2, b3, b4, b5⟩ := decInt_back b n u hd
  have hu := enc_le n
  rw [← b3] at hu
  have Hd := Lib.hid hd
  clear hd b2 b3
  obtain ⟨L, hL⟩ : ∃ L, L = b.length := ⟨_, rfl⟩
  rw [← hL] at HC hc hl b1 ⊢
  have HL := Lib.hid hL
  clear hL
  by_cases hn : n < 0
  ·
   go_enter Tryd.func106, Tryd.ntmps106
   go_wp2_with (go_at_call 90; refine HC.out.mono ?_; rintro e w' ⟨rfl, rfl⟩)
   go_ret3
   refine ⟨?_, rfl⟩
   have hlen : decLen least b = (0, 0, 2) := by
    unfold decLen
    rw [Hd.out, if_neg (by simp), if_pos hn]
   rw [hlen]; rfl
  ·
   obtain ⟨m, rfl⟩ : ∃ m : Nat, n = (m : Int) := ⟨n.toNat, by omega⟩
   have hq : (((L : Int) - u) / (least : Int)) = (((L - u) / least : Nat) : Int) := by
    rw [← Int.ofNat_sub b1]; exact (Int.natCast_ediv _ _).symm
   have hq2 : (L - u) / least ≤ L := Nat.le_trans (Nat.div_le_self _ _) (Nat.sub_le _ _)
   by_cases hm : (L - u) / least < m
   ·
    go_enter Tryd.func106, Tryd.ntmps106
    go_wp2_with (go_at_call 90; refine HC.out.mono ?_; rintro e w' ⟨rfl, rfl⟩)
    go_ret3
    refine ⟨?_, rfl⟩
    have hlen : decLen least b = (0, 0, 3) := by
     unfold decLen
     rw [Hd.out, if_neg (by simp), if_neg (by simp), if_pos (by rw [← HL.out]; exact hm)]
    rw [hlen]; rfl
   ·
    go_enter Tryd.func106, Tryd.ntmps106
    go_wp2_with (go_at_call 90; refine HC.out.mono ?_; rintro e w' ⟨rfl, rfl⟩)
    go_ret3
    refine ⟨?_, rfl⟩
    have hlen : decLen least b = (m, u, 0) := by
     unfold decLen
     rw [Hd.out, if_neg (by simp), if_neg (by simp), if_neg (by rw [← HL.out]; exact hm)]
     rfl
    rw [hlen]; rfl
 ·
  have hb := errB er he
  have hlen : decLen least b = (0, 0, er) := by
   unfold decLen
   rw [hd, if_pos he]
  rw [hlen]
  clear hlen hd
  go_enter Tryd.func106, Tryd.ntmps106
  go_wp2_with (go_at_call 90; refine HC.out.mono ?_; rintro e w' ⟨rfl, rfl⟩)
  go_ret3
  exact ⟨rfl, rfl⟩
theorem cut_bytes (A : Option Addr) (b : List UInt8) (c l h : Nat) (w : World) (B : Nat) (hr : Rd w B A (B8 b)) (hb : 0 < b.length) (hlh : l ≤ h) (hh : h ≤ b.length) (hc : b.length ≤ c) :
  ∃ a : Addr, (∀ W : World, (Instr.sliceAt 39 (.slice A b.length c) (some (.int .i64 (l : Int))) (some (.int .i64 (h : Int))) none).run Tryd.prog W = .ok (.slice (some a) (h - l) (c - l)) W) ∧
   a.block < B ∧ ∀ j (hj : j < ((b.drop l).take (h - l)).length), w.cell? (a.add j) = some (.int .u8 (((b.drop l).take (h - l))[j].toNat : Int)) := by
 obtain ⟨g, o, rfl, hg, hcell⟩ := hr (by intro e; have := congrArg List.length e; simp [B8] at this; subst this; simp at hb)
 refine ⟨if c = l then ⟨g, o, none⟩ else ⟨g, o + l, none⟩, fun W => ?_, by split <;> exact hg, fun j hj => ?_⟩
 ·
  have hu : Tryd.prog.underlying 39 = some (.slice (Tryd.prog.elem 39)) := by kernel_rfl
  have he : Tryd.prog.elem 39 = 5 := by kernel_rfl
  have h5 : (sizeOf 5).run Tryd.prog W = .ok 1 W := by kernel_rfl
  rw [run_sliceAt_slice W 39 _ _ _ _ hu, run_slice_lh W 39 (some ⟨g, o, none⟩) b.length c hu .i64 .i64 l h (by omega) (by omega) (by omega), he, h5]
  simp only [Result.andThen, sliced, Int.toNat_natCast]
  by_cases hcl : c = l
  ·
   simp [hcl]
  ·
   simp [hcl, Addr.add_lit]
 ·
  have hj2 : j < h - l := by simp at hj; omega
  rw [if_neg (by simp at hj; omega), Addr.add_lit, Nat.add_assoc]
  refine hcell (l + j) _ ?_
  rw [B8_get _ _ (by omega)]
  simp
set_option maxRecDepth 100000 in
set_option maxHeartbeats 400000 in
theorem getBytes_any (A : Option Addr) (b : List UInt8) (c : Nat) (w : World) (B : Nat) (hr : Rd w B A (B8 b)) (hc : b.length ≤ c) (hl : b.length ≤ 1099511627776) :
  Calls Tryd.prog 92 #[.slice A b.length c] w fun e w' => e = .returned (.tuple #[.string ⟨(decStr b).1.toArray⟩, .int .i64 ((decStr b).2.1 : Nat), .int .i64 ((decStr b).2.2 : Nat)]) ∧ w = w' := by
 have hcall := getLength_any A b c 1 w B hr hc hl (by omega) (by omega)
 rcases hd : decLen 1 b with ⟨n, u, er⟩
 rw [hd] at hcall
 simp only at hcall
 have HC := Lib.hid hcall
 clear hcall
 by_cases he : er = 0
 ·
  subst he
  obtain ⟨b1, b2, b3, b4, b5⟩ := decLen_ok hd
  have hu := enc_le (n : Int)
  rw [← b3] at hu
  simp only [Nat.div_one] at b4
  obtain ⟨a, hsl, _, hcl⟩ := cut_bytes A b c u (u + n) w B hr (by omega) (by omega) (by omega) hc
  have hcv := run_convert_bytes_back w 39 9 5 a (c - u) ((b.drop u).take (u + n - u)) Tryd.underlying39 Tryd.underlying5 Tryd.underlying9 hcl
  have hlen : ((b.drop u).take (u + n - u)).length = u + n - u := by simp; omega
  rw [hlen] at hcv
  rw [Nat.add_sub_cancel_left] at hcv hsl
  have hdec : decStr b = ((b.drop u).take n, u + n, 0) := by
   unfold decStr
   rw [hd, if_neg (by simp)]
  rw [hdec]
  obtain ⟨S, hS⟩ : ∃ S, S = (b.drop u).take n := ⟨_, rfl⟩
  rw [← hS] at hcv ⊢
  rw [show ((u + n : Nat) : Int) = (u : Int) + (n : Int) from by omega] at hsl
  clear hd b2 b3 hdec hcl hlen hS hr
  obtain ⟨L, hL⟩ : ∃ L, L = b.length := ⟨_, rfl⟩
  rw [← hL] at HC hc hl b1 b4 hsl ⊢
  clear hL
  go_enter Tryd.func92, Tryd.ntmps92
  go_wp2_with (go_at_call 106; refine HC.out.mono ?_; rintro e w' ⟨rfl, rfl⟩)
  go_ret3
  exact ⟨rfl, rfl⟩
 ·
  have hb := errB er he
  have hlen : decStr b = ([], 0, er) := by
   unfold decStr
   rw [hd, if_pos he]
  rw [hlen]
  clear hlen hd
  go_enter Tryd.func92, Tryd.ntmps92
  go_wp2_with (go_at_call 106; refine HC.out.mono ?_; rintro e w' ⟨rfl, rfl⟩)
  go_ret3
  exact ⟨rfl, rfl⟩
end Go.Proofs.YtofccgkgjcnfbaaDoor.W1
