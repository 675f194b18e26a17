/-
  Limbs as integers, integers as limbs: numbers, ints, fromNumbers, limbs.
  No condition but the lengths.
-/
import Derived.Test.YtbfhilbagojdnaaGreatHr13
import Derived.Test.YtbfhilbagojdnaaGreatWGets
import Derived.Test.YtbfhilbagojdnaaGreatWI
import Derived.Test.YtbfhilbagojdnaaGreatWForm
namespace Go.Proofs.YtbfhilbagojdnaaGreat
open Go.RowKit Wr Go.Proofs.YtbfhilbagojdnaaGreat.Nm
open Go.Proofs.YtbfhilbagojdnaaGreat.W1.Wr (okInt decInts encInts)
open Go.Proofs.YtbfhilbagojdnaaGreat.W1 (I64 I64_get I64_len I64_one)
set_option linter.unusedVariables false
set_option maxRecDepth 100000

def NbI (l : List Nat) : List Int := l.map fun (x : Nat) => (x : Int)
theorem NbI_len (l : List Nat) : (NbI l).length = l.length := by simp [NbI]
theorem NbI_ok {l : List Nat} (h : Ok l) : ∀ x ∈ NbI l, 0 ≤ x ∧ x < 4294967296 := by
  intro x hx
  obtain ⟨y, hy, rfl⟩ := List.mem_map.1 hx
  have := h y hy
  omega
/-- An append of one integer to a row of the call's own. -/
theorem wpList_app_int {B : Nat} {w : World} {ops : Array Oper} {rest : List Oper} {o : Oper} {a : Act} {Q : Exit → Act → World → Prop} (hgd : o.guard = none) (s x : Operand)
    (ho : o.op = .call { callee := .builtin .append, args := #[s, x], argTypes := #[50, 50] }) (v : Value) (n : Nat) (xs : List Int) (hs : a.eval s = v) (hown : w.ownsRow B 3 1 v n (I64 xs))
    (g : Nat) (y : Int) (hx : a.eval x = .slice (some ⟨g, 0, none⟩) 1 1) (hb : Blk w g 3 [.int .i64 y]) (hbytes : n + 1 ≤ 1073741824) (hbase : B ≤ w.heap.size)
    (h : ∀ v' w', w'.ownsRow B 3 1 v' (n + 1) (I64 (xs ++ [y])) → w.grownBy w' v.ownBlock → wpList Tryz.prog ops Q rest (a.put o.dst v') w') : wpList Tryz.prog ops Q (o :: rest) a w := by
  obtain ⟨i0, hi0, hz0, hz1, hz2⟩ := info_parts W1.Tryz.info3
  exact wpList_append_own w hgd s x 50 ho B 3 i0 (.int .i64 0) 1 8 Tryz.underlying50 hi0 hz0 hz1 hz2 rfl (by decide) v n (I64 xs) hs hown ⟨g, 0, none⟩ 1 1 [.int .i64 y] hx rfl hb.at (fun u hu => by simp at hu; subst hu; rfl) (by unfold maxLen; omega) (by omega) hbase
    (fun v' w' h1 h2 _ => h v' w' (by have e : I64 (xs ++ [y]) = I64 xs ++ [.int .i64 y] := by simp [I64]
                                      rw [e]; exact h1) h2)
def NmP (w : World) (l : List Nat) (e : Ending) (w' : World) : Prop := ∃ v, e = .returned v ∧ w'.ownsRow w.heap.size 3 1 v l.length (I64 (NbI l)) ∧ Below w.heap.size w w'
theorem NbI_take (l : List Nat) (i : Nat) (h : i < l.length) : NbI (l.take i) ++ [((l[i] : Nat) : Int)] = NbI (l.take (i + 1)) := by
  rw [List.take_succ_eq_append_getElem h]; unfold NbI; rw [List.map_append]; rfl
set_option maxHeartbeats 2000000 in
theorem numbers_any {v : Value} {l : List Nat} {w : World} (h : Sl w v l) (ho : Ok l) (hl : l.length ≤ 1000000) : Calls Tryz.prog 77 #[v] w (NmP w l) := by
  obtain ⟨A, c, rfl, hc, hn, hr⟩ := h
  obtain ⟨n, hN⟩ : ∃ n, n = l.length := ⟨_, rfl⟩
  rw [← hN] at hl hc ⊢
  have HN := Lib.hid hN; have HR := Lib.hid hr; have HO := Lib.hid ho
  have hlI : (n : Int) ≤ 1000000 := by omega
  clear hN hr ho hn hc
  go_enter Tryz.func77, Tryz.ntmps77
  go_wp2
  go_loopw [3, 8] (fun s3 s8 wr => ∃ i : Nat, i ≤ n ∧ s8 = .int .i64 ((i : Nat) : Int) ∧ wr.ownsRow w.heap.size 3 1 s3 i (I64 (NbI (l.take i))) ∧ Below w.heap.size w wr) (fun _ s8 _ => n - (intOf s8).toNat)
  case atStart => exact ⟨0, Nat.zero_le _, rfl, World.ownsRow_nil _ _ _ _, Below.refl _ _⟩
  case round =>
    obtain ⟨i, hi, rfl, hown, hbel⟩ := hrel
    have HOW := Lib.hid hown; have HBE := Lib.hid hbel
    rcases Nat.lt_or_ge i n with hlt | hge
    · have hil : i < l.length := by rw [← HN.out]; exact hlt
      have hiI : (i : Int) < (n : Int) := by omega
      obtain ⟨g, o, rfl, hg, hcell⟩ := limb_cell HR.out i hil
      have hcl := (hbel.cell (p := ⟨g, o + i, none⟩) hg).trans hcell
      have hz := HO.out.get i hil
      have HT := Lib.hid (NbI_take l i hil)
      generalize l[i] = x at hcl hz HT
      have HOA := Lib.hid (hown.alloc (.cells #[.int .i64 (x : Int)] 3)); have HBA := Lib.hid (hbel.alloc hbel.size (.cells #[.int .i64 (x : Int)] 3)); have HBK := Lib.hid (Blk.new wr 3 [.int .i64 (x : Int)])
      have HII := Lib.hid (show i + 1 ≤ 1073741824 ∧ i + 1 ≤ n by omega)
      clear hown hbel hcell hil hlt hi
      go_wp2_with (at_builtin; (refine wpList_app_int rfl (.tmp 12) (.tmp 15) rfl _ i (NbI (l.take i)) rfl HOA.out wr.heap.size (x : Int) rfl HBK.out HII.out.1 HBA.out.size ?_))
      intro v' w' ho hg
      rw [HT.out] at ho
      have HO2 := Lib.hid ho; have HB2 := Lib.hid (HBA.out.grown hg HBA.out.size (fun q e => (HOA.out.lt q e).1))
      clear ho hg hcl
      go_wp2
      go_roundw
      case rel => exact ⟨i + 1, HII.out.2, by simp, HO2.out, HB2.out⟩
      case measure => simp only [intOf]; omega
    · have hie : i = n := by omega
      subst hie
      have HF := Lib.hid (show wr.ownsRow w.heap.size 3 1 u3 l.length (I64 (NbI l)) by
        have h := HOW.out
        rw [HN.out, List.take_length] at h
        exact h)
      clear hown hbel hge hi
      go_wp2
      go_ret
      exact ⟨_, rfl, HF.out, HBE.out⟩
set_option maxHeartbeats 2000000 in
theorem rnums_any {v : Value} {l : List Nat} {w : World} (h : Sl w v l) (ho : Ok l) (hl : l.length ≤ 1000000) : Calls Tryz.prog 78 #[v] w (NmP w l) := by
  obtain ⟨A, c, rfl, hc, hn, hr⟩ := h
  obtain ⟨n, hN⟩ : ∃ n, n = l.length := ⟨_, rfl⟩
  rw [← hN] at hl hc ⊢
  have HN := Lib.hid hN; have HR := Lib.hid hr; have HO := Lib.hid ho
  have hlI : (n : Int) ≤ 1000000 := by omega
  clear hN hr ho hn hc
  go_enter Tryz.func78, Tryz.ntmps78
  go_wp2
  go_loopw [3, 4] (fun s3 s4 wr => ∃ i : Nat, i ≤ n ∧ s4 = .int .i64 ((i : Nat) : Int) ∧ wr.ownsRow w.heap.size 3 1 s3 i (I64 (NbI (l.take i))) ∧ Below w.heap.size w wr) (fun _ s4 _ => n - (intOf s4).toNat)
  case atStart => exact ⟨0, Nat.zero_le _, rfl, World.ownsRow_nil _ _ _ _, Below.refl _ _⟩
  case round =>
    obtain ⟨i, hi, rfl, hown, hbel⟩ := hrel
    have HOW := Lib.hid hown; have HBE := Lib.hid hbel
    rcases Nat.lt_or_ge i n with hlt | hge
    · have hil : i < l.length := by rw [← HN.out]; exact hlt
      have hiI : (i : Int) < (n : Int) := by omega
      obtain ⟨g, o, rfl, hg, hcell⟩ := limb_cell HR.out i hil
      have hcl := (hbel.cell (p := ⟨g, o + i, none⟩) hg).trans hcell
      have hz := HO.out.get i hil
      have HT := Lib.hid (NbI_take l i hil)
      generalize l[i] = x at hcl hz HT
      have HOA := Lib.hid (hown.alloc (.cells #[.int .i64 (x : Int)] 3)); have HBA := Lib.hid (hbel.alloc hbel.size (.cells #[.int .i64 (x : Int)] 3)); have HBK := Lib.hid (Blk.new wr 3 [.int .i64 (x : Int)])
      have HII := Lib.hid (show i + 1 ≤ 1073741824 ∧ i + 1 ≤ n by omega)
      clear hown hbel hcell hil hlt hi
      go_wp2_with (at_builtin; (refine wpList_app_int rfl (.tmp 11) (.tmp 17) rfl _ i (NbI (l.take i)) rfl HOA.out wr.heap.size (x : Int) rfl HBK.out HII.out.1 HBA.out.size ?_))
      intro v' w' ho hg
      rw [HT.out] at ho
      have HO2 := Lib.hid ho; have HB2 := Lib.hid (HBA.out.grown hg HBA.out.size (fun q e => (HOA.out.lt q e).1))
      clear ho hg hcl
      go_wp2
      go_roundw
      case rel => exact ⟨i + 1, HII.out.2, by simp, HO2.out, HB2.out⟩
      case measure => simp only [intOf]; omega
    · have hie : i = n := by omega
      subst hie
      have HF := Lib.hid (show wr.ownsRow w.heap.size 3 1 u3 l.length (I64 (NbI l)) by
        have h := HOW.out
        rw [HN.out, List.take_length] at h
        exact h)
      clear hown hbel hge hi
      go_wp2
      go_ret
      exact ⟨_, rfl, HF.out, HBE.out⟩
/-- Integers that are limbs. -/
def okL (l : List Int) : Bool := l.all fun x => decide (0 ≤ x ∧ x ≤ 4294967295)
def toL (l : List Int) : List Nat := if okL l = true then l.map Int.toNat else []
theorem okL_take {l : List Int} {i : Nat} (h : i < l.length) (ho : okL (l.take i) = true) (hx : 0 ≤ l[i] ∧ l[i] ≤ 4294967295) : okL (l.take (i + 1)) = true := by
  unfold okL at ho ⊢
  rw [List.take_succ_eq_append_getElem h, List.all_append, ho]
  simp [hx]
theorem okL_bad {l : List Int} {i : Nat} (h : i < l.length) (hx : ¬ (0 ≤ l[i] ∧ l[i] ≤ 4294967295)) : okL l = false := by
  unfold okL
  rw [List.all_eq_false]
  exact ⟨l[i], List.getElem_mem h, by simpa using hx⟩
def FnP (w : World) (l : List Int) (e : Ending) (w' : World) : Prop := ∃ v, e = .returned (.tuple #[v, .bool (okL l)]) ∧ Sl w' v (toL l) ∧ Below w.heap.size w w'
theorem i64_cell {w : World} {B : Nat} {A : Option Addr} {l : List Int} (h : Rd w B A (I64 l)) (i : Nat) (hi : i < l.length) : ∃ g o, A = some ⟨g, o, none⟩ ∧ g < B ∧ w.cell? ⟨g, o + i, none⟩ = some (.int .i64 l[i]) := by
  obtain ⟨g, o, e, hb, hc⟩ := h (by intro e; have := congrArg List.length e; rw [I64_len] at this; simp at this; rw [this] at hi; simp at hi)
  exact ⟨g, o, e, hb, hc i _ (I64_get l i hi)⟩
set_option maxHeartbeats 2000000 in
theorem fromNums_any {A : Option Addr} {c : Nat} {l : List Int} {w : World} (hr : Rd w w.heap.size A (I64 l)) (hl : l.length ≤ 1048576) (hb : ∀ x ∈ l, -9223372036854775808 ≤ x ∧ x ≤ 9223372036854775807) : Calls Tryz.prog 85 #[.slice A l.length c] w (FnP w l) := by
  obtain ⟨n, hN⟩ : ∃ n, n = l.length := ⟨_, rfl⟩
  rw [← hN] at hl ⊢
  have HN := Lib.hid hN; have HR := Lib.hid hr; have HB := Lib.hid hb
  have hlI : (n : Int) ≤ 1048576 := by omega
  clear hN hr hb
  go_enter Tryz.func85, Tryz.ntmps85
  go_wp2
  go_loopw [4, 9] (fun sv si wr => ∃ i : Nat, i ≤ n ∧ si = .int .i64 ((i : Nat) : Int) ∧ okL (l.take i) = true ∧ wr.ownsRow w.heap.size 66 1 sv i (Lc ((l.take i).map Int.toNat)) ∧ Below w.heap.size w wr) (fun _ si _ => n - (intOf si).toNat)
  case atStart => exact ⟨0, Nat.zero_le _, rfl, rfl, World.ownsRow_nil _ _ _ _, Below.refl _ _⟩
  case round =>
    obtain ⟨i, hi, rfl, hok, hown, hbel⟩ := hrel
    have HOW := Lib.hid hown; have HBE := Lib.hid hbel; have HOK := Lib.hid hok
    clear hok
    rcases Nat.lt_or_ge i n with hlt | hge
    · have hil : i < l.length := by rw [← HN.out]; exact hlt
      have hiI : (i : Int) < (n : Int) := by omega
      obtain ⟨g, o, rfl, hg, hcell⟩ := i64_cell HR.out i hil
      have hcl := (hbel.cell (p := ⟨g, o + i, none⟩) hg).trans hcell
      have hxb := HB.out _ (List.getElem_mem hil)
      by_cases hx : 0 ≤ l[i] ∧ l[i] ≤ 4294967295
      · obtain ⟨y, hy⟩ := Int.eq_ofNat_of_zero_le hx.1
        have HK := Lib.hid (okL_take hil HOK.out hx)
        have HT := Lib.hid (show (l.take i).map Int.toNat ++ [y] = (l.take (i + 1)).map Int.toNat by rw [List.take_succ_eq_append_getElem hil, List.map_append, List.map_cons, List.map_nil, hy]; rfl)
        have hy2 : (y : Int) ≤ 4294967295 := by omega
        rw [hy] at hcl
        have hn1 : ¬ ((y : Int) < 0) := by omega
        have hn2 : ¬ ((y : Int) > 4294967295) := by omega
        have HRD := Lib.hid (show Rd (wr.alloc (.cells #[.int .u32 ((y : Nat) : Int)] 66)) (wr.heap.size + 1) (some ⟨wr.heap.size, 0, none⟩) (Lc [y]) by have h := rd_one y wr; simpa using h)
        have HOA := Lib.hid (hown.alloc (.cells #[.int .u32 (y : Int)] 66)); have HBA := Lib.hid (hbel.alloc hbel.size (.cells #[.int .u32 (y : Int)] 66))
        have HII := Lib.hid (show i + 1 ≤ 1073741824 ∧ i + 1 ≤ n by omega)
        clear hown hbel hcell hil hlt hi hx hy hxb
        go_wp2_with (at_builtin; (refine wpList_append_lim rfl (.tmp 19) (.tmp 22) rfl w.heap.size _ i (Lc ((l.take i).map Int.toNat)) rfl HOA.out (some ⟨wr.heap.size, 0, none⟩) 1 1 (wr.heap.size + 1) [y] rfl (fun e => by cases e) rfl HRD.out HII.out.1 HBA.out.size ?_))
        intro v' w' ho hg
        have hb := HBA.out.grown hg HBA.out.size (fun q e => (HOA.out.lt q e).1)
        rw [← Lc_append, ← List.map_take, HT.out] at ho
        have HO := Lib.hid ho; have HB2 := Lib.hid hb
        clear ho hg hb hcl hn1 hn2
        go_wp2
        go_roundw
        case rel => exact ⟨i + 1, HII.out.2, by simp, HK.out, HO.out, HB2.out⟩
        case measure => simp only [intOf]; omega
      · have HK := Lib.hid (okL_bad hil hx)
        have HZ := Lib.hid (show toL l = [] by unfold toL; rw [HK.out]; rfl)
        obtain ⟨x, hxe⟩ : ∃ x, x = l[i] := ⟨_, rfl⟩
        rw [← hxe] at hcl hx hxb
        by_cases h0 : x < 0
        · clear hown hbel hcell hil hlt hi hx hxb hxe
          go_wp2
          go_ret2
          exact ⟨.slice none 0 0, by rw [HK.out]; rfl, by rw [HZ.out]; exact Sl.nil _, HBE.out⟩
        · have h1 : x > 4294967295 := by omega
          clear hown hbel hcell hil hlt hi hx hxe
          go_wp2
          go_ret2
          exact ⟨.slice none 0 0, by rw [HK.out]; rfl, by rw [HZ.out]; exact Sl.nil _, HBE.out⟩
    · have hie : i = n := by omega
      subst hie
      have HK := Lib.hid (show okL l = true by have h := HOK.out; rw [HN.out, List.take_length] at h; exact h)
      have HF := Lib.hid (show Sl wr u4 (toL l) by
        have h := HOW.out
        rw [HN.out, List.take_length] at h
        unfold toL
        rw [if_pos HK.out]
        have e : (l.map Int.toNat).length = l.length := by simp
        rw [← e] at h
        exact own_sl h)
      clear hown hbel hge hi
      go_wp2
      go_ret2
      exact ⟨u4, by rw [HK.out]; rfl, HF.out, HBE.out⟩
end Go.Proofs.YtbfhilbagojdnaaGreat
