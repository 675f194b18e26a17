/-
  The contracts of wire.appendBytes, Bytes, Ints, Strings and Digests: they append, or return, the encodings.
  No condition but that the arguments can be read and that a slice that is appended to is of the call's own making; sums of lengths below 2^40.
-/
import Derived.Test.YtooanlmmplbnoaaInt
import Derived.Test.YtooanlmmplbnoaaPure3
import Derived.Lib.AppendStr
namespace Go.Proofs.Ytooanlmmplbnoaa
open Go.RowKit Wr
set_option linter.unusedVariables false

theorem size_list (s : ByteArray) : s.data.toList.length = s.size := by simp
theorem strCells_B8 (s : ByteArray) : Lib.strCells s = B8 s.data.toList := rfl

set_option maxRecDepth 100000 in
set_option maxHeartbeats 400000 in
theorem appendBytes_any (v : Value) (s : ByteArray) (w : World) (B k : Nat) (xs : List UInt8) (hB : B ≤ w.heap.size) (hown : w.ownsRow B 5 1 v k (B8 xs))
    (hk : k ≤ 1099511627776) (hs : s.size ≤ 1099511627776) :
    Calls Try.prog 39 #[v, .string s] w fun e w' => ∃ v', e = .returned v' ∧ w'.ownsRow B 5 1 v' (k + (encStr s.data.toList).length) (B8 (xs ++ encStr s.data.toList)) ∧ Below B w w' := by
  obtain ⟨i0, hi0, hz0, hz1, hz2⟩ := info_parts Try.info5
  have hel := enc_le (s.size : Int)
  go_enter Try.func39, Try.ntmps39
  go_wp2_with (first
    | (go_at_call 38; refine (appendInt_any _ _ _ B k xs hB hown hk (by omega) (by omega)).mono ?_; rintro e w1 ⟨v1, rfl, ho1, hb1⟩)
    | (at_builtin; refine Lib.wpList_append_own_string _ rfl (.tmp 8) (.tmp 9) 28 9 rfl B 5 i0 Try.underlying28 Try.underlying9 hi0 hz0 hz1 hz2 v1 (k + (enc (s.size : Int)).length) (B8 (xs ++ enc (s.size : Int))) rfl ho1 s rfl (by unfold maxLen; omega) (by omega) (Nat.le_trans hB hb1.size) ?_; intro v2 w2 ho2 hg2 _))
  go_ret
  refine ⟨v2, rfl, ?_, hb1.grown hg2 (Nat.le_trans hB hb1.size) (fun q hq => (ho1.lt q hq).1)⟩
  unfold encStr
  rw [size_list, List.length_append, size_list, ← Nat.add_assoc, ← List.append_assoc, B8_append _ s.data.toList]
  exact ho2

set_option maxHeartbeats 400000 in
theorem bytes_any (s : ByteArray) (w : World) (hs : s.size ≤ 1099511627776) :
    Calls Try.prog 16 #[.string s] w fun e w' => ∃ v', e = .returned v' ∧ w'.ownsRow w.heap.size 5 1 v' (encStr s.data.toList).length (B8 (encStr s.data.toList)) ∧ Below w.heap.size w w' := by
  go_enter Try.func16, Try.ntmps16
  go_wp2_with (go_at_call 39; refine (appendBytes_any _ s _ w.heap.size 0 [] (Nat.le_refl _) (World.ownsRow_nil _ _ _ _) (by omega) hs).mono ?_; rintro e w' ⟨v', rfl, ho, hb⟩)
  go_ret
  exact ⟨v', rfl, by simpa using ho, hb⟩

/-- The encoding of a list behind j elements. -/
def partE {α : Type} (e : α → List UInt8) (l : List α) (j : Nat) : List UInt8 := enc (l.length : Int) ++ ((l.take j).map e).flatten
theorem partE_zero {α : Type} (e : α → List UInt8) (l : List α) : partE e l 0 = enc (l.length : Int) := by simp [partE]
theorem partE_succ {α : Type} (e : α → List UInt8) (l : List α) (j : Nat) (h : j < l.length) : partE e l (j + 1) = partE e l j ++ e l[j] := by
  unfold partE
  rw [List.take_succ_eq_append_getElem h, List.map_append, List.flatten_append, ← List.append_assoc]
  simp only [List.map_cons, List.map_nil, List.flatten_cons, List.flatten_nil, List.append_nil]
theorem partE_all {α : Type} (e : α → List UInt8) (l : List α) : partE e l l.length = encList e l := by simp [partE, encList]
theorem partE_len {α : Type} (e : α → List UInt8) (l : List α) (m j : Nat) (h : ∀ x ∈ l, (e x).length ≤ m) (hj : j ≤ l.length) : (partE e l j).length ≤ 9 + m * j := by
  induction j with
  | zero => rw [partE_zero]; have := enc_le (l.length : Int); omega
  | succ j ih =>
    rw [partE_succ e l j (by omega), List.length_append]
    have := ih (by omega)
    have := h l[j] (List.getElem_mem _)
    rw [Nat.mul_succ]; omega

/-- The cells of integers, and of strings. -/
def I64 (l : List Int) : List Value := l.map (Value.int .i64)
def St (l : List ByteArray) : List Value := l.map Value.string
theorem I64_get (l : List Int) (j : Nat) (h : j < l.length) : (I64 l)[j]? = some (.int .i64 l[j]) := by simp [I64, h]
theorem St_get (l : List ByteArray) (j : Nat) (h : j < l.length) : (St l)[j]? = some (.string l[j]) := by simp [St, h]

set_option maxRecDepth 100000 in
set_option maxHeartbeats 400000 in
theorem ints_any (A : Option Addr) (l : List Int) (c : Nat) (w : World) (hr : Rd w w.heap.size A (I64 l)) (hc : l.length ≤ c) (hl : l.length ≤ 1073741824) (hi : ∀ x ∈ l, okInt x) :
    Calls Try.prog 18 #[.slice A l.length c] w fun e w' => ∃ v', e = .returned v' ∧ w'.ownsRow w.heap.size 5 1 v' (encInts l).length (B8 (encInts l)) ∧ Below w.heap.size w w' := by
  have hz := enc_le (l.length : Int)
  obtain ⟨N, hN⟩ : ∃ N, N = l.length := ⟨_, rfl⟩
  rw [← hN] at hc hl hz ⊢
  have HN := Lib.hid hN
  clear hN
  go_enter Try.func18, Try.ntmps18
  go_wp2_with (go_at_call 14; refine (int_any _ _ (by omega) (by omega)).mono ?_; rintro e w1 ⟨v1, rfl, ho1, hb1⟩)
  go_loopw [3, 11] (fun s3 s11 wr => ∃ j : Nat, j ≤ N ∧ s11 = .int .i64 j ∧ wr.ownsRow w.heap.size 5 1 s3 (partE enc l j).length (B8 (partE enc l j)) ∧ Below w.heap.size w wr)
    (fun _ s11 _ => N - (intOf s11).toNat)
  case atStart => exact ⟨0, Nat.zero_le _, rfl, by rw [partE_zero, ← HN.out]; exact ho1, hb1⟩
  case round =>
    obtain ⟨j, hj, rfl, ho, hb⟩ := hrel
    by_cases hlt : j < N
    · have hjl : j < l.length := by have := HN.out; omega
      obtain ⟨g, o, rfl, hg, hcell⟩ := (hr.below hb) (by intro e; have := congrArg List.length e; simp only [I64, List.length_map, List.length_nil] at this; omega)
      have hcj : wr.cell? ⟨g, o + j, none⟩ = some (.int .i64 l[j]) := hcell j _ (I64_get l j hjl)
      have hb2 := hi l[j] (List.getElem_mem _)
      have hb3 := partE_len enc l 9 j (fun x _ => (enc_le x).2) (by have := HN.out; omega)
      have hsz := hb.size
      have HP := Lib.hid (partE_succ enc l j hjl)
      clear hcell
      go_wp2_with (go_at_call 38; refine (appendInt_any _ _ _ w.heap.size _ _ hsz ho (by omega) hb2.1 hb2.2).mono ?_; rintro e w2 ⟨v2, rfl, ho2, hbb2⟩)
      go_roundw
      case rel => exact ⟨j + 1, by omega, by go_num, by rw [HP.out, List.length_append]; exact ho2, hb.trans hbb2⟩
      case measure => simp only [intOf]; omega
    · obtain rfl : j = N := by omega
      go_wp2_with fail
      go_ret
      exact ⟨_, rfl, by unfold encInts; rw [← partE_all, ← HN.out]; exact ho, hb⟩

theorem partE_le {α : Type} (e : α → List UInt8) (l : List α) (j : Nat) (hj : j ≤ l.length) : (partE e l j).length ≤ (encList e l).length := by
  have h : encList e l = partE e l j ++ ((l.drop j).map e).flatten := by
    unfold encList partE
    rw [List.append_assoc, ← List.flatten_append, ← List.map_append, List.take_append_drop]
  rw [h, List.length_append]
  omega

/-- The bytes of strings. -/
def bs (l : List ByteArray) : List (List UInt8) := l.map (·.data.toList)
theorem bs_len (l : List ByteArray) : (bs l).length = l.length := by simp [bs]

set_option maxRecDepth 100000 in
set_option maxHeartbeats 400000 in
theorem strings_any (A : Option Addr) (l : List ByteArray) (c : Nat) (w : World) (hr : Rd w w.heap.size A (St l)) (hc : l.length ≤ c) (hl : l.length ≤ 1073741824) (hsum : (encStrs (bs l)).length ≤ 1073741824) (hi : ∀ x ∈ l, x.size ≤ 1073741824) :
    Calls Try.prog 20 #[.slice A l.length c] w fun e w' => ∃ v', e = .returned v' ∧ w'.ownsRow w.heap.size 5 1 v' (encStrs (bs l)).length (B8 (encStrs (bs l))) ∧ Below w.heap.size w w' := by
  have hz := enc_le (l.length : Int)
  obtain ⟨N, hN⟩ : ∃ N, N = l.length := ⟨_, rfl⟩
  rw [← hN] at hc hl hz ⊢
  have HN := Lib.hid hN
  clear hN
  go_enter Try.func20, Try.ntmps20
  go_wp2_with (go_at_call 14; refine (int_any _ _ (by omega) (by omega)).mono ?_; rintro e w1 ⟨v1, rfl, ho1, hb1⟩)
  go_loopw [3, 11] (fun s3 s11 wr => ∃ j : Nat, j ≤ N ∧ s11 = .int .i64 j ∧ wr.ownsRow w.heap.size 5 1 s3 (partE encStr (bs l) j).length (B8 (partE encStr (bs l) j)) ∧ Below w.heap.size w wr)
    (fun _ s11 _ => N - (intOf s11).toNat)
  case atStart => exact ⟨0, Nat.zero_le _, rfl, by rw [partE_zero, bs_len, ← HN.out]; exact ho1, hb1⟩
  case round =>
    obtain ⟨j, hj, rfl, ho, hb⟩ := hrel
    by_cases hlt : j < N
    · have hjl : j < l.length := by have := HN.out; omega
      obtain ⟨g, o, rfl, hg, hcell⟩ := (hr.below hb) (by intro e; have := congrArg List.length e; simp only [St, List.length_map, List.length_nil] at this; omega)
      have hcj : wr.cell? ⟨g, o + j, none⟩ = some (.string l[j]) := hcell j _ (St_get l j hjl)
      have hb2 := hi l[j] (List.getElem_mem _)
      have hb3 := partE_le encStr (bs l) j (by rw [bs_len]; omega)
      unfold encStrs at hsum
      have hsz := hb.size
      have hP := partE_succ encStr (bs l) j (by rw [bs_len]; omega)
      have hbj : (bs l)[j]'(by rw [bs_len]; omega) = l[j].data.toList := by simp [bs]
      rw [hbj] at hP
      have HP := Lib.hid hP
      clear hcell hP hbj
      go_wp2_with (go_at_call 39; refine (appendBytes_any _ _ _ w.heap.size _ _ hsz ho (by omega) (by omega)).mono ?_; rintro e w2 ⟨v2, rfl, ho2, hbb2⟩)
      go_roundw
      case rel => exact ⟨j + 1, by omega, by go_num, by rw [HP.out, List.length_append]; exact ho2, hb.trans hbb2⟩
      case measure => simp only [intOf]; omega
    · obtain rfl : j = N := by omega
      go_wp2_with fail
      go_ret
      exact ⟨_, rfl, by unfold encStrs; rw [← partE_all, bs_len, ← HN.out]; exact ho, hb⟩

theorem size57 (d : List UInt8) (h : d.length = 16) : (Try.prog.info? 57).map (·.size) = some (B8 d).length := by
  rw [B8_len, h]; kernel_rfl
theorem size57' (d : List UInt8) (h : d.length = 16) : (Try.prog.info? 57).map (·.size) = some (B8 d).toArray.size := size57 d h
theorem one57 (d : List UInt8) : (B8 d).toArray.all (·.oneCell') = true := by
  rw [Array.all_eq_true_iff_forall_mem]; intro u hu; exact B8_one d u (by simpa using hu)
theorem slice_all (g : Nat) (W : World) : (Instr.sliceAt 57 (.pointer (some ⟨g, 0, none⟩)) none none none).run Try.prog W = .ok (.slice (some ⟨g, 0, none⟩) 16 16) W := by
  have h9 : Try.prog.arrayLen 57 = 16 := by kernel_rfl
  have he : Try.prog.elem 57 = 5 := by kernel_rfl
  have hu : Try.prog.underlying 57 = some (.array (Try.prog.arrayLen 57) (Try.prog.elem 57)) := by kernel_rfl
  have h5 : (sizeOf 5).run Try.prog W = .ok 1 W := by kernel_rfl
  rw [run_sliceAt_array_all W 57 ⟨g, 0, none⟩ hu, he, h5, h9]
  simp only [Result.andThen, slicedAt]
  rw [if_neg (by omega), Addr.add_lit]
/-- The cells of digests. -/
def Dg (l : List (List UInt8)) : List Value := B8 l.flatten
theorem flat_len (l : List (List UInt8)) (h : ∀ x ∈ l, okDig x) : l.flatten.length = 16 * l.length := by
  induction l with
  | nil => rfl
  | cons x l ih =>
    have h1 : x.length = 16 := h x (by simp)
    rw [List.flatten_cons, List.length_append, ih (fun y hy => h y (by simp [hy])), h1, List.length_cons]; omega
theorem flat_at (l : List (List UInt8)) (h : ∀ x ∈ l, okDig x) (j : Nat) (hj : j < l.length) (i : Nat) (hi : i < l[j].length) : l.flatten[16 * j + i]? = some l[j][i] := by
  have hs : l.flatten = (l.take j).flatten ++ (l[j] ++ (l.drop (j + 1)).flatten) := by
    rw [← List.flatten_cons, ← List.drop_eq_getElem_cons hj, ← List.flatten_append, List.take_append_drop]
  have hl : (l.take j).flatten.length = 16 * j := by
    rw [flat_len _ (fun x hx => h x (List.mem_of_mem_take hx))]; simp; omega
  rw [hs, List.getElem?_append_right (by omega), hl, Nat.add_sub_cancel_left, List.getElem?_append_left hi, List.getElem?_eq_getElem hi]
theorem Dg_at (l : List (List UInt8)) (h : ∀ x ∈ l, okDig x) (j : Nat) (hj : j < l.length) (i : Nat) (u : Value) (hu : (B8 l[j])[i]? = some u) : (Dg l)[j * 16 + i]? = some u := by
  have hi : i < l[j].length := by have := (List.getElem?_eq_some_iff.1 hu).1; simpa [B8] using this
  unfold Dg B8
  rw [List.getElem?_map, Nat.mul_comm, flat_at l h j hj i hi]
  rw [B8_get _ _ hi] at hu
  simpa using hu

set_option maxRecDepth 100000 in
set_option maxHeartbeats 400000 in
theorem digests_any (A : Option Addr) (l : List (List UInt8)) (c : Nat) (w : World) (hr : Rd w w.heap.size A (Dg l)) (hc : l.length ≤ c) (hl : l.length ≤ 67108864) (hi : ∀ x ∈ l, okDig x) :
    Calls Try.prog 22 #[.slice A l.length c] w fun e w' => ∃ v', e = .returned v' ∧ w'.ownsRow w.heap.size 5 1 v' (encDigs l).length (B8 (encDigs l)) ∧ Below w.heap.size w w' := by
  obtain ⟨i0, hi0, hz0, hz1, hz2⟩ := info_parts Try.info5
  have hz := enc_le (l.length : Int)
  obtain ⟨N, hN⟩ : ∃ N, N = l.length := ⟨_, rfl⟩
  rw [← hN] at hc hl hz ⊢
  have HN := Lib.hid hN
  clear hN
  go_enter Try.func22, Try.ntmps22
  go_wp2_with (go_at_call 14; refine (int_any _ _ (by omega) (by omega)).mono ?_; rintro e w1 ⟨v1, rfl, ho1, hb1⟩)
  go_loopw [3, 11] (fun s3 s11 wr => ∃ j : Nat, j ≤ N ∧ s11 = .int .i64 j ∧ wr.ownsRow w.heap.size 5 1 s3 (partE (fun d : List UInt8 => d) l j).length (B8 (partE (fun d : List UInt8 => d) l j)) ∧ Below w.heap.size w wr)
    (fun _ s11 _ => N - (intOf s11).toNat)
  case atStart => exact ⟨0, Nat.zero_le _, rfl, by rw [partE_zero, ← HN.out]; exact ho1, hb1⟩
  case round =>
    obtain ⟨j, hj, rfl, ho, hb⟩ := hrel
    by_cases hlt : j < N
    · have hjl : j < l.length := by have := HN.out; omega
      obtain ⟨g, o, rfl, hg, hcell⟩ := (hr.below hb) (by intro e; have := congrArg List.length e; simp only [Dg, B8, List.length_map, List.length_nil, flat_len l hi] at this; omega)
      have h16 : l[j].length = 16 := hi l[j] (List.getElem_mem _)
      have hcj : ∀ i u, (B8 l[j])[i]? = some u → wr.cell? ((⟨g, o + j * 16, none⟩ : Addr).add i) = some u := fun i u hu => by
        rw [Addr.add_lit, Nat.add_assoc]; exact hcell _ u (Dg_at l hi j hjl i u hu)
      have hb3 := partE_len (fun d : List UInt8 => d) l 16 j (fun x hx => by rw [hi x hx]; omega) (by omega)
      have hsz := hb.size
      have HP := Lib.hid (partE_succ (fun d : List UInt8 => d) l j hjl)
      have HC := Lib.hid hcj
      clear hcell hcj
      have hsl := slice_all wr.heap.size
      have Hnew := Lib.hid (fun (old : Array Value) => heap_setRow (wr.alloc (.cells old 57)) wr.heap.size (B8 l[j]).toArray old 57 (heap_alloc_new wr _))
      have Hbel := Lib.hid (fun (O : Obj) => belowRow ((Below.refl wr.heap.size wr).alloc (Nat.le_refl _) O) (Nat.le_refl _) (B8 l[j]).toArray)
      have Hown := Lib.hid (fun (O : Obj) => own_below ho (Hbel.out O))
      go_wp2_with (first
        | (with_reducible refine wpList_load_at rfl 57 (.tmp 13) rfl ⟨g, o + j * 16, none⟩ rfl (B8 l[j]) (.array 16 5) HC.out Try.underlying57 rfl (size57 _ h16) ?_)
        | (with_reducible refine wpList_store_row rfl 57 (.tmp 5) (.tmp 14) rfl wr.heap.size (B8 l[j]).toArray rfl rfl 57 _ (heap_alloc_new wr _) (size57' _ h16) (by simp [B8, h16]) (one57 _) ?_)
        | (at_builtin; go_loud (refine wpList_append_own _ rfl (.tmp 15) (.tmp 16) 28 rfl w.heap.size 5 i0 (.int .u8 0) 1 1 Try.underlying28 hi0 hz0 hz1 hz2 rfl (by decide) u3 _ _ rfl (Hown.out _) ⟨wr.heap.size, 0, none⟩ 16 16 (B8 l[j]) rfl ?c0 ?c1 ?c2 ?c3 ?c4 ?c5 ?_)))
      case c0 => rw [B8_len, h16]
      case c1 =>
        intro i u hu
        rw [Addr.add_lit, Nat.zero_add, cell_of_row _ _ _ _ _ _ (Hnew.out _)]
        simpa using hu
      case c2 => exact B8_one _
      case c3 => unfold maxLen; omega
      case c4 => omega
      case c5 => simp; omega
      · intro v2 w2 ho2 hg2 _
        have hb2 := (hb.trans ((Hbel.out _).mono hsz)).grown hg2 (by simp; omega) (fun q hq => (ho.lt q hq).1)
        go_wp2
        go_roundw
        case rel => exact ⟨j + 1, by omega, by go_num, by rw [HP.out, List.length_append, h16, B8_append]; exact ho2, hb2⟩
        case measure => simp only [intOf]; omega
    · obtain rfl : j = N := by omega
      go_wp2_with fail
      go_ret
      exact ⟨_, rfl, by unfold encDigs; rw [← partE_all, ← HN.out]; exact ho, hb⟩
end Go.Proofs.Ytooanlmmplbnoaa
