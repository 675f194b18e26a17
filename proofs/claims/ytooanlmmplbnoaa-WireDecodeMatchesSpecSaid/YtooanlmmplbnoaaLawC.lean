/-
  The walk of the law WireCanonical: it returns true, whatever the bytes.
  No condition.
-/
import Derived.Test.YtooanlmmplbnoaaSane
import Derived.Test.YtooanlmmplbnoaaArg
import Derived.Test.YtooanlmmplbnoaaLawB
namespace Go.Proofs.Ytooanlmmplbnoaa
open Go.RowKit Wr
set_option linter.unusedVariables false

set_option maxRecDepth 100000 in
set_option maxHeartbeats 1000000 in
theorem is_err (v : Value) (u er : Nat) (p : Value) (w : World) (he : er ≠ 0) :
    Calls Try.prog 37 #[v, .int .i64 u, .int .i64 er, p] w fun e w' => e = .returned (.bool true) ∧ w = w' := by
  have hb := errB er he
  clear he
  go_enter Try.func37, Try.ntmps37
  go_wp2_with fail
  go_ret
  exact ⟨rfl, rfl⟩

set_option maxRecDepth 100000 in
set_option maxHeartbeats 1000000 in
theorem is_ok (A A1 : Option Addr) (b e1 : List UInt8) (c c1 u g : Nat) (w : World) (hg : Blk w g 28 [.slice A b.length c]) (hr : Rd w w.heap.size A (B8 b)) (hr1 : Rd w w.heap.size A1 (B8 e1)) (hc : b.length ≤ c) (hl : b.length ≤ 1073741824)
    (hu : u ≤ b.length) (hu1 : 1 ≤ u) (ht : b.take u = e1) (hn : e1.length = u) :
    Calls Try.prog 37 #[.slice A1 e1.length c1, .int .i64 u, .int .i64 0, .pointer (some ⟨g, 0, none⟩)] w fun e w' => e = .returned (.bool true) ∧ Below w.heap.size w w' := by
  have c0 : w.cell? ⟨g, 0, none⟩ = some (.slice A b.length c) := hg.cell 0
  have hsm := same_any A1 A e1 (b.take u) c1 c w w.heap.size hr1 (by have := hr.take u; rwa [show (B8 b).take u = B8 (b.take u) by simp [B8]] at this) (by omega) (by rw [ht]; omega)
  rw [ht] at hsm
  simp only [decide_true] at hsm
  rw [hn] at hsm ⊢
  have HS := Lib.hid hsm
  obtain ⟨L, hL⟩ : ∃ L, L = b.length := ⟨_, rfl⟩
  rw [← hL] at c0 hu hc hl
  have hsl : ∀ W : World, (Instr.sliceAt 28 (.slice A L c) none (some (.int .i64 (u : Int))) none).run Try.prog W = .ok (.slice A u c) W := by
    intro W
    have hu2 : Try.prog.underlying 28 = some (.slice (Try.prog.elem 28)) := by kernel_rfl
    have he : Try.prog.elem 28 = 5 := by kernel_rfl
    have h5 : (sizeOf 5).run Try.prog W = .ok 1 W := by kernel_rfl
    rw [run_sliceAt_slice W 28 _ _ _ _ hu2, run_slice_h W 28 A L c hu2 .i64 u (by omega) (by omega), he, h5]
    simp only [Result.andThen, sliced, Int.toNat_natCast, Nat.sub_zero]
    by_cases h0 : c = 0
    · simp [h0]
    · cases A with
      | none => simp [h0]
      | some a => simp [h0, Addr.add]
  clear hsm hg hr hr1 ht hn hL
  go_enter Try.func37, Try.ntmps37
  go_wp2_with fail
  refine HS.out.mono ?_; rintro e w1 ⟨rfl, q, rfl⟩
  go_wp2_with fail
  go_ret
  exact ⟨rfl, rfl, rfl, rfl, Nat.le_refl _, fun _ _ => rfl⟩

theorem decInts_back (b : List UInt8) (l : List Int) (u : Nat) (h : decInts b = (l, u, 0)) : u ≤ b.length ∧ b.take u = encInts l ∧ u = (encInts l).length ∧ ∀ x ∈ l, okInt x := list_back codecInt b l u h
theorem decStrs_back (b : List UInt8) (l : List (List UInt8)) (u : Nat) (h : decStrs b = (l, u, 0)) : u ≤ b.length ∧ b.take u = encStrs l ∧ u = (encStrs l).length ∧ ∀ x ∈ l, okStr x := list_back codecStr b l u h
theorem decDigs_back (b : List UInt8) (l : List (List UInt8)) (u : Nat) (h : decDigs b = (l, u, 0)) : u ≤ b.length ∧ b.take u = encDigs l ∧ u = (encDigs l).length ∧ ∀ x ∈ l, okDig x := list_back codecDig b l u h
theorem list_err {α : Type} {e : α → List UInt8} {get : List UInt8 → α × Nat × Nat} {least : Nat} {ok : α → Prop} (c : Codec e get least ok) (b : List UInt8) :
    (decList get least b).2.2 = 0 ∨ decList get least b = ([], 0, 2) ∨ decList get least b = ([], 0, 3) := by
  unfold decList
  rcases decLen_err least b with h | h | h
  · rw [if_neg (by simpa using h)]
    have go : ∀ (k at_ : Nat) (acc : List α), (decGo get b k at_ acc).2.2 = 0 ∨ decGo get b k at_ acc = ([], 0, 2) ∨ decGo get b k at_ acc = ([], 0, 3) := by
      intro k
      induction k with
      | zero => intro at_ acc; simp [decGo]
      | succ k ih =>
        intro at_ acc
        rw [decGo]
        split
        · next h0 =>
          rcases c.err (b.drop at_) with h | h | h
          · exact absurd h h0
          · rw [h]; simp
          · rw [h]; simp
        · exact ih _ _
    exact go _ _ _
  · rw [h]; simp
  · rw [h]; simp
theorem encList_pos {α : Type} (e : α → List UInt8) (l : List α) : 1 ≤ (encList e l).length := by
  unfold encList
  have := enc_le (l.length : Int)
  rw [List.length_append]; omega
theorem encList_elem {α : Type} (e : α → List UInt8) (l : List α) (x : α) (hx : x ∈ l) : (e x).length ≤ (encList e l).length := by
  unfold encList
  rw [List.length_append]
  have : (e x).length ≤ ((l.map e).flatten).length := by
    induction l with
    | nil => simp at hx
    | cons y l ih =>
      rcases List.mem_cons.1 hx with rfl | hx
      · simp
      · have := ih hx; simp only [List.map_cons, List.flatten_cons, List.length_append]; omega
  omega
/-- Byte strings as strings. -/
def ba (l : List (List UInt8)) : List ByteArray := l.map fun s => ⟨s.toArray⟩
theorem bs_ba (l : List (List UInt8)) : bs (ba l) = l := by
  unfold bs ba
  rw [List.map_map]
  conv => rhs; rw [← List.map_id l]
  apply List.map_congr_left
  intro s _
  simp
theorem St_ba (l : List (List UInt8)) : St (ba l) = Sb l := by rw [St_bs, bs_ba]
theorem ba_len (l : List (List UInt8)) : (ba l).length = l.length := by simp [ba]
theorem strs_few (b : List UInt8) (l : List (List UInt8)) (u : Nat) (h : decStrs b = (l, u, 0)) : l.length ≤ u ∧ ∀ x ∈ l, x.length ≤ u := by
  obtain ⟨h1, h2, h3, h4⟩ := decStrs_back b l u h
  have hf := flat_long codecStr l h4
  have hl : ((l.map encStr).flatten).length ≤ u := by rw [h3]; unfold encStrs encList; rw [List.length_append]; omega
  refine ⟨by omega, fun x hx => ?_⟩
  have := encList_elem encStr l x hx
  have h5 : x.length ≤ (encStr x).length := by unfold encStr; rw [List.length_append]; omega
  unfold encStrs at h3
  omega
theorem ints_few (b : List UInt8) (l : List Int) (u : Nat) (h : decInts b = (l, u, 0)) : l.length ≤ u := by
  obtain ⟨h1, h2, h3, h4⟩ := decInts_back b l u h
  have hf := flat_long codecInt l h4
  rw [h3]; unfold encInts encList; rw [List.length_append]; omega
theorem digs_few (b : List UInt8) (l : List (List UInt8)) (u : Nat) (h : decDigs b = (l, u, 0)) : l.length ≤ u := by
  obtain ⟨h1, h2, h3, h4⟩ := decDigs_back b l u h
  have hf := flat_long codecDig l h4
  rw [h3]; unfold encDigs encList; rw [List.length_append]; omega

/-- A step of the law: the closure says true of what was decoded and its encoding. -/
theorem is_step (A A1 : Option Addr) (b e1 : List UInt8) (c c1 u er g : Nat) (w : World) (hg : Blk w g 28 [.slice A b.length c]) (hr : Rd w w.heap.size A (B8 b)) (hr1 : Rd w w.heap.size A1 (B8 e1)) (hc : b.length ≤ c) (hl : b.length ≤ 1073741824)
    (h : er = 0 → u ≤ b.length ∧ 1 ≤ u ∧ b.take u = e1 ∧ u = e1.length) :
    Calls Try.prog 37 #[.slice A1 e1.length c1, .int .i64 u, .int .i64 er, .pointer (some ⟨g, 0, none⟩)] w fun e w' => e = .returned (.bool true) ∧ Below w.heap.size w w' := by
  by_cases he : er = 0
  · obtain ⟨h1, h2, h3, h4⟩ := h he
    subst he
    exact is_ok A A1 b e1 c c1 u g w hg hr hr1 hc hl h1 h2 h3 h4.symm
  · exact (is_err _ u er _ w he).mono fun e w' ⟨h1, h2⟩ => ⟨h1, by subst h2; exact Below.refl _ _⟩

theorem bt {a b c : World} (h : Below a.heap.size a b) (k : Below b.heap.size b c) : Below a.heap.size a c := h.trans (k.mono h.size)
theorem decInt_ok (b : List UInt8) : okInt (decInt b).1 := by
  rcases decInt_err b with h | h | h
  · have := decInt_back b (decInt b).1 (decInt b).2.1 (Prod.ext rfl (Prod.ext rfl h)); exact this.2.2.2
  · rw [h]; exact ⟨by decide, by decide⟩
  · rw [h]; exact ⟨by decide, by decide⟩
theorem decStr_few (b : List UInt8) : (decStr b).1.length ≤ b.length := by
  rcases decStr_err b with h | h | h
  · have := decStr_back b (decStr b).1 (decStr b).2.1 (Prod.ext rfl (Prod.ext rfl h))
    have h5 : (decStr b).1.length ≤ (encStr (decStr b).1).length := by conv => rhs; unfold encStr; rw [List.length_append]
                                                                       omega
    omega
  · rw [h]; exact Nat.zero_le _
  · rw [h]; exact Nat.zero_le _
theorem ints_facts (b : List UInt8) : (decInts b).1.length ≤ b.length ∧ ∀ x ∈ (decInts b).1, okInt x := by
  rcases list_err codecInt b with h | h | h
  · have h2 : decInts b = ((decInts b).1, (decInts b).2.1, 0) := Prod.ext rfl (Prod.ext rfl h)
    have h3 := decInts_back b _ _ h2
    exact ⟨Nat.le_trans (ints_few b _ _ h2) h3.1, h3.2.2.2⟩
  · have h2 : decInts b = ([], 0, 2) := h
    rw [h2]; simp
  · have h2 : decInts b = ([], 0, 3) := h
    rw [h2]; simp
theorem strs_facts (b : List UInt8) : (decStrs b).1.length ≤ b.length ∧ (∀ x ∈ (decStrs b).1, x.length ≤ b.length) ∧ (encStrs (decStrs b).1).length ≤ b.length + 9 := by
  rcases list_err codecStr b with h | h | h
  · have h2 : decStrs b = ((decStrs b).1, (decStrs b).2.1, 0) := Prod.ext rfl (Prod.ext rfl h)
    have h3 := decStrs_back b _ _ h2
    have h4 := strs_few b _ _ h2
    exact ⟨Nat.le_trans h4.1 h3.1, fun x hx => Nat.le_trans (h4.2 x hx) h3.1, by have := h3.2.2.1; have := h3.1; omega⟩
  · have h2 : decStrs b = ([], 0, 2) := h
    rw [h2]; refine ⟨by simp, by simp, ?_⟩
    have := enc_le (0 : Int)
    show (enc ((([] : List (List UInt8)).length : Nat) : Int) ++ _).length ≤ _
    simp at this ⊢; omega
  · have h2 : decStrs b = ([], 0, 3) := h
    rw [h2]; refine ⟨by simp, by simp, ?_⟩
    have := enc_le (0 : Int)
    show (enc ((([] : List (List UInt8)).length : Nat) : Int) ++ _).length ≤ _
    simp at this ⊢; omega
theorem digs_facts (b : List UInt8) : (decDigs b).1.length ≤ b.length ∧ ∀ x ∈ (decDigs b).1, okDig x := by
  rcases list_err codecDig b with h | h | h
  · have h2 : decDigs b = ((decDigs b).1, (decDigs b).2.1, 0) := Prod.ext rfl (Prod.ext rfl h)
    have h3 := decDigs_back b _ _ h2
    exact ⟨Nat.le_trans (digs_few b _ _ h2) h3.1, h3.2.2.2⟩
  · have h2 : decDigs b = ([], 0, 2) := h
    rw [h2]; simp
  · have h2 : decDigs b = ([], 0, 3) := h
    rw [h2]; simp

theorem getInts_t (A : Option Addr) (b : List UInt8) (c : Nat) (w : World) (hr : Rd w w.heap.size A (B8 b)) (hc : b.length ≤ c) (hl : b.length ≤ 1073741824) :
    Calls Try.prog 28 #[.slice A b.length c] w fun e w' => ∃ (A' : Option Addr) (c' : Nat), e = .returned (.tuple #[.slice A' (decInts b).1.length c', .int .i64 ((decInts b).2.1 : Nat), .int .i64 ((decInts b).2.2 : Nat)]) ∧
      (decInts b).1.length ≤ c' ∧ Rd w' w'.heap.size A' (I64 (decInts b).1) ∧ Below w.heap.size w w' := by
  refine (getInts_any A b c w hr hc hl).mono ?_
  rintro e w' ⟨v, rfl, ho, hb⟩
  obtain ⟨A', c', rfl, h1, h2, h3⟩ := own_form ho
  exact ⟨A', c', rfl, h1, h3, hb⟩
theorem getStrings_t (A : Option Addr) (b : List UInt8) (c : Nat) (w : World) (hr : Rd w w.heap.size A (B8 b)) (hc : b.length ≤ c) (hl : b.length ≤ 1073741824) :
    Calls Try.prog 31 #[.slice A b.length c] w fun e w' => ∃ (A' : Option Addr) (c' : Nat), e = .returned (.tuple #[.slice A' (decStrs b).1.length c', .int .i64 ((decStrs b).2.1 : Nat), .int .i64 ((decStrs b).2.2 : Nat)]) ∧
      (decStrs b).1.length ≤ c' ∧ Rd w' w'.heap.size A' (Sb (decStrs b).1) ∧ Below w.heap.size w w' := by
  refine (getStrings_any A b c w hr hc hl).mono ?_
  rintro e w' ⟨v, rfl, ho, hb⟩
  obtain ⟨A', c', rfl, h1, h2, h3⟩ := own_form ho
  exact ⟨A', c', rfl, h1, h3, hb⟩
theorem getDigests_t (A : Option Addr) (b : List UInt8) (c : Nat) (w : World) (hr : Rd w w.heap.size A (B8 b)) (hc : b.length ≤ c) (hl : b.length ≤ 1073741824) :
    Calls Try.prog 34 #[.slice A b.length c] w fun e w' => ∃ (A' : Option Addr) (c' : Nat), e = .returned (.tuple #[.slice A' (decDigs b).1.length c', .int .i64 ((decDigs b).2.1 : Nat), .int .i64 ((decDigs b).2.2 : Nat)]) ∧
      (decDigs b).1.length ≤ c' ∧ Rd w' w'.heap.size A' (Dg (decDigs b).1) ∧ Below w.heap.size w w' := by
  refine (getDigests_any A b c w hr hc hl).mono ?_
  rintro e w' ⟨v, rfl, ho, hb⟩
  obtain ⟨A', c', rfl, h1, h2, h3⟩ := own_form ho
  exact ⟨A', c', rfl, h1, h3, hb⟩
set_option maxRecDepth 100000 in
set_option maxHeartbeats 4000000 in
theorem canonical_walk (a1 : Option Addr) (len1 cap1 : Nat) (z1 : List Int) (w : World) (w1 : InRow .u8 w a1 len1 cap1 z1) :
    Calls Try.prog 7 #[.slice a1 len1 cap1] w fun e w' => e = .returned (.bool true) ∧ Below w.heap.size w w' := by
  obtain ⟨b, hb, hlc, hno, hr⟩ := in_bytes w1
  clear w1
  by_cases hm : 2000 < len1
  · have hc0 : ∀ O, (w.alloc O).cell? ⟨w.heap.size, 0, none⟩ = (w.alloc O).cell? ⟨w.heap.size, 0, none⟩ := fun _ => rfl
    clear hc0
    go_enter Try.func7, Try.ntmps7
    go_wp2_with (go_at_call 12; refine (sanity_any _).mono ?_; rintro e w' ⟨rfl, hbs⟩)
    go_ret
    exact ⟨rfl, ((Below.refl _ _).alloc (Nat.le_refl _) _).trans (hbs.mono (by simp))⟩
  · subst hb
    have o1 := decInt_ok b
    have o2 := decStr_few b
    have o3 := ints_facts b
    have o4 := strs_facts b
    have o5 := digs_facts b
    have q1 : (decInt b).2.2 = 0 → (decInt b).2.1 ≤ b.length ∧ 1 ≤ (decInt b).2.1 ∧ b.take (decInt b).2.1 = enc (decInt b).1 ∧ (decInt b).2.1 = (enc (decInt b).1).length := fun h => by
      have := decInt_back b (decInt b).1 (decInt b).2.1 (Prod.ext rfl (Prod.ext rfl h))
      exact ⟨this.1, by rw [this.2.2.1]; exact (enc_le _).1, this.2.1, this.2.2.1⟩
    have q2 : (decStr b).2.2 = 0 → (decStr b).2.1 ≤ b.length ∧ 1 ≤ (decStr b).2.1 ∧ b.take (decStr b).2.1 = encStr (decStr b).1 ∧ (decStr b).2.1 = (encStr (decStr b).1).length := fun h => by
      have := decStr_back b (decStr b).1 (decStr b).2.1 (Prod.ext rfl (Prod.ext rfl h))
      exact ⟨this.1, this.2.2.2.2, this.2.1, this.2.2.1⟩
    have q3 : (decInts b).2.2 = 0 → (decInts b).2.1 ≤ b.length ∧ 1 ≤ (decInts b).2.1 ∧ b.take (decInts b).2.1 = encInts (decInts b).1 ∧ (decInts b).2.1 = (encInts (decInts b).1).length := fun h => by
      have := decInts_back b (decInts b).1 (decInts b).2.1 (Prod.ext rfl (Prod.ext rfl h))
      exact ⟨this.1, by rw [this.2.2.1]; exact encList_pos _ _, this.2.1, this.2.2.1⟩
    have q4 : (decStrs b).2.2 = 0 → (decStrs b).2.1 ≤ b.length ∧ 1 ≤ (decStrs b).2.1 ∧ b.take (decStrs b).2.1 = encStrs (decStrs b).1 ∧ (decStrs b).2.1 = (encStrs (decStrs b).1).length := fun h => by
      have := decStrs_back b (decStrs b).1 (decStrs b).2.1 (Prod.ext rfl (Prod.ext rfl h))
      exact ⟨this.1, by rw [this.2.2.1]; exact encList_pos _ _, this.2.1, this.2.2.1⟩
    have q5 : (decDigs b).2.2 = 0 → (decDigs b).2.1 ≤ b.length ∧ 1 ≤ (decDigs b).2.1 ∧ b.take (decDigs b).2.1 = encDigs (decDigs b).1 ∧ (decDigs b).2.1 = (encDigs (decDigs b).1).length := fun h => by
      have := decDigs_back b (decDigs b).1 (decDigs b).2.1 (Prod.ext rfl (Prod.ext rfl h))
      exact ⟨this.1, by rw [this.2.2.1]; exact encList_pos _ _, this.2.1, this.2.2.1⟩
    have g1 := fun (W : World) (h : Rd W W.heap.size a1 (B8 b)) => getInt_any a1 b cap1 W _ h hlc (by omega)
    have g2 := fun (W : World) (h : Rd W W.heap.size a1 (B8 b)) => getBytes_any a1 b cap1 W _ h hlc (by omega)
    have g3 := fun (W : World) (h : Rd W W.heap.size a1 (B8 b)) => getInts_t a1 b cap1 W h hlc (by omega)
    have g4 := fun (W : World) (h : Rd W W.heap.size a1 (B8 b)) => getStrings_t a1 b cap1 W h hlc (by omega)
    have g5 := fun (W : World) (h : Rd W W.heap.size a1 (B8 b)) => getDigests_t a1 b cap1 W h hlc (by omega)
    have e1 := fun (W : World) => int_s (decInt b).1 W o1.1 o1.2
    have e2 := fun (W : World) => bytes_s ⟨(decStr b).1.toArray⟩ W (by have h : (⟨(decStr b).1.toArray⟩ : ByteArray).size = (decStr b).1.length := by rw [← size_list]
                                                                       rw [h]; omega)
    have e3 := fun (W : World) (A : Option Addr) (c : Nat) (h : Rd W W.heap.size A (I64 (decInts b).1)) (hc : (decInts b).1.length ≤ c) => ints_s A (decInts b).1 c W h hc (by omega) o3.2
    have e4 := fun (W : World) (A : Option Addr) (c : Nat) (h : Rd W W.heap.size A (Sb (decStrs b).1)) (hc : (decStrs b).1.length ≤ c) => strings_s A (ba (decStrs b).1) c W (by rw [St_ba]; exact h) (by rw [ba_len]; exact hc) (by rw [ba_len]; omega) (by rw [bs_ba]; omega) (by
      intro x hx
      obtain ⟨s, hs, rfl⟩ := List.mem_map.1 hx
      have := o4.2.1 s hs
      have h : (⟨s.toArray⟩ : ByteArray).size = s.length := by rw [← size_list]
      rw [h]; omega)
    simp only [ba_len, bs_ba] at e4
    have e5 := fun (W : World) (A : Option Addr) (c : Nat) (h : Rd W W.heap.size A (Dg (decDigs b).1)) (hc : (decDigs b).1.length ≤ c) => digests_s A (decDigs b).1 c W h hc (by omega) o5.2
    have hbb : (⟨(decStr b).1.toArray⟩ : ByteArray).data.toList = (decStr b).1 := rfl
    dsimp only at e2
    have G1 := Lib.hid g1
    have G2 := Lib.hid g2
    have G3 := Lib.hid g3
    have G4 := Lib.hid g4
    have G5 := Lib.hid g5
    have E1 := Lib.hid e1
    have E2 := Lib.hid e2
    have E3 := Lib.hid e3
    have E4 := Lib.hid e4
    have E5 := Lib.hid e5
    have Q1 := Lib.hid q1
    have Q2 := Lib.hid q2
    have Q3 := Lib.hid q3
    have Q4 := Lib.hid q4
    have Q5 := Lib.hid q5
    clear hbb o1 o2 o3 o4 o5 g1 g2 g3 g4 g5 e1 e2 e3 e4 e5 q1 q2 q3 q4 q5
    obtain ⟨W0, hW0⟩ : ∃ W0, W0 = w.alloc (.cells #[.slice a1 b.length cap1] 28) := ⟨_, rfl⟩
    have hB0 : Below w.heap.size w W0 := by rw [hW0]; exact (Below.refl _ _).alloc (Nat.le_refl _) _
    have hg0 : Blk W0 w.heap.size 28 [.slice a1 b.length cap1] := by rw [hW0]; exact Blk.new w 28 _
    have hr0 : Rd W0 W0.heap.size a1 (B8 b) := (hr.below hB0).more hB0.size
    have K1 := fun (W : World) (A : Option Addr) (c : Nat) (h : Below W0.heap.size W0 W) (h1 : Rd W W.heap.size A (B8 (enc (decInt b).1))) => is_step a1 A b _ cap1 c _ _ w.heap.size W (hg0.below h hg0.lt) ((hr0.below h).more h.size) h1 hlc (by omega) Q1.out
    have K2 := fun (W : World) (A : Option Addr) (c : Nat) (h : Below W0.heap.size W0 W) (h1 : Rd W W.heap.size A (B8 (encStr (decStr b).1))) => is_step a1 A b _ cap1 c _ _ w.heap.size W (hg0.below h hg0.lt) ((hr0.below h).more h.size) h1 hlc (by omega) Q2.out
    have K3 := fun (W : World) (A : Option Addr) (c : Nat) (h : Below W0.heap.size W0 W) (h1 : Rd W W.heap.size A (B8 (encInts (decInts b).1))) => is_step a1 A b _ cap1 c _ _ w.heap.size W (hg0.below h hg0.lt) ((hr0.below h).more h.size) h1 hlc (by omega) Q3.out
    have K4 := fun (W : World) (A : Option Addr) (c : Nat) (h : Below W0.heap.size W0 W) (h1 : Rd W W.heap.size A (B8 (encStrs (decStrs b).1))) => is_step a1 A b _ cap1 c _ _ w.heap.size W (hg0.below h hg0.lt) ((hr0.below h).more h.size) h1 hlc (by omega) Q4.out
    have K5 := fun (W : World) (A : Option Addr) (c : Nat) (h : Below W0.heap.size W0 W) (h1 : Rd W W.heap.size A (B8 (encDigs (decDigs b).1))) => is_step a1 A b _ cap1 c _ _ w.heap.size W (hg0.below h hg0.lt) ((hr0.below h).more h.size) h1 hlc (by omega) Q5.out
    have S1 := Lib.hid K1
    have S2 := Lib.hid K2
    have S3 := Lib.hid K3
    have S4 := Lib.hid K4
    have S5 := Lib.hid K5
    clear K1 K2 K3 K4 K5 Q1 Q2 Q3 Q4 Q5
    obtain ⟨L, hL⟩ : ∃ L, L = b.length := ⟨_, rfl⟩
    rw [← hL] at hg0 hW0 G1 G2 G3 G4 G5
    have HR := Lib.hid hr0
    have HW0 := Lib.hid hW0
    have HG := Lib.hid (fun (W : World) (h : Below W0.heap.size W0 W) => show W.cell? ⟨w.heap.size, 0, none⟩ = some (.slice a1 L cap1) from (hg0.below h hg0.lt).cell 0)
    have HRW := Lib.hid (fun (W : World) (h : Below W0.heap.size W0 W) => (hr0.below h).more h.size)
    have c0 := HG.out W0 (Below.refl _ _)
    have hmL : ¬ 2000 < L := by omega
    rw [← hL]
    have HL := Lib.hid hL
    clear hL hg0 hW0 hr0 hm hr
    go_enter Try.func7, Try.ntmps7
    go_wp2_with fail
    rw [← HW0.out]
    refine (G1.out _ HR.out).mono ?_; rintro e w' ⟨rfl, rfl⟩
    go_wp2_with fail
    refine (G2.out _ HR.out).mono ?_; rintro e w' ⟨rfl, rfl⟩
    go_wp2_with fail
    refine (G3.out _ HR.out).mono ?_; rintro e w1 ⟨A1, c1, rfl, hc1, r1, hb1⟩
    have k1 := HG.out w1 hb1
    go_wp2_with fail
    refine (G4.out _ (HRW.out _ hb1)).mono ?_; rintro e w2 ⟨A2, c2, rfl, hc2, r2, hb2⟩
    have hb2' := bt hb1 hb2
    have k2 := HG.out w2 hb2'
    clear c0 k1
    go_wp2_with fail
    refine (G5.out _ (HRW.out _ hb2')).mono ?_; rintro e w3 ⟨A3, c3, rfl, hc3, r3, hb3⟩
    have hb3' := bt hb2' hb3
    have s1 := r1.below (bt hb2 hb3) |>.more (bt hb2 hb3).size
    have s2 := r2.below hb3 |>.more hb3.size
    clear k2 hb1 hb2 hb2' hb3 r1 r2
    go_wp2_with fail
    refine (sanity_any _).mono ?_; rintro e w4 ⟨rfl, hb4⟩
    go_wp2_with fail
    refine (E1.out _).mono ?_; rintro e w5 ⟨A5, c5, rfl, hc5, hn5, r5, hb5⟩
    have hb5' := bt hb4 hb5
    clear hb4 hb5 hn5
    go_wp2_with fail
    refine (S1.out w5 A5 c5 (bt hb3' hb5') r5).mono ?_; rintro e w6 ⟨rfl, hb6⟩
    have hb6' := bt hb5' hb6
    clear hb5' hb6 r5 hc5
    go_wp2_with fail
    refine (E2.out _).mono ?_; rintro e w7 ⟨A7, c7, rfl, hc7, hn7, r7, hb7⟩
    have hb7' := bt hb6' hb7
    clear hb6' hb7 hn7
    go_wp2_with fail
    refine (S2.out w7 A7 c7 (bt hb3' hb7') r7).mono ?_; rintro e w8 ⟨rfl, hb8⟩
    have hb8' := bt hb7' hb8
    clear hb7' hb8 r7 hc7
    go_wp2_with fail
    refine (E3.out _ A1 c1 ((s1.below hb8').more hb8'.size) hc1).mono ?_; rintro e w9 ⟨A9, c9, rfl, hc9, hn9, r9, hb9⟩
    have hb9' := bt hb8' hb9
    clear hb8' hb9 hn9 s1
    go_wp2_with fail
    refine (S3.out w9 A9 c9 (bt hb3' hb9') r9).mono ?_; rintro e w10 ⟨rfl, hb10⟩
    have hb10' := bt hb9' hb10
    clear hb9' hb10 r9 hc9
    go_wp2_with fail
    refine (E4.out _ A2 c2 ((s2.below hb10').more hb10'.size) hc2).mono ?_; rintro e w11 ⟨A11, c11, rfl, hc11, hn11, r11, hb11⟩
    have hb11' := bt hb10' hb11
    clear hb10' hb11 hn11 s2
    go_wp2_with fail
    refine (S4.out w11 A11 c11 (bt hb3' hb11') r11).mono ?_; rintro e w12 ⟨rfl, hb12⟩
    have hb12' := bt hb11' hb12
    clear hb11' hb12 r11 hc11
    go_wp2_with fail
    refine (E5.out _ A3 c3 ((r3.below hb12').more hb12'.size) hc3).mono ?_; rintro e w13 ⟨A13, c13, rfl, hc13, hn13, r13, hb13⟩
    have hb13' := bt hb12' hb13
    clear hb12' hb13 hn13 r3
    go_wp2_with fail
    refine (S5.out w13 A13 c13 (bt hb3' hb13') r13).mono ?_; rintro e w14 ⟨rfl, hb14⟩
    have hE := bt hB0 (bt hb3' (bt hb13' hb14))
    clear hb13' hb14 r13 hc13
    go_wp2_with fail
    go_ret
    exact ⟨rfl, hE⟩
end Go.Proofs.Ytooanlmmplbnoaa
