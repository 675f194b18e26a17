/-
  Texts of the proof, joined: Ir, Cu, Rf, Rc, Rp, Rw, Rx, Rm, Rq, Rh, Rk, Ry, Rz.
  No condition: lemmas.
-/
import Derived.Laws.AppendOwn
import Derived.Shelf.Strings.Cut
import Derived.Test.YtbfhilbagojdnaaGreatHr8
namespace Go.Proofs.YtbfhilbagojdnaaGreat
open Go.RowKit Wr Go.Proofs.YtbfhilbagojdnaaGreat.Nm
set_option linter.unusedVariables false
set_option maxRecDepth 100000

theorem Bv_get (l : List UInt8) (j : Nat) (h : j < l.length) : (Bv l)[j]? = some (.int .u8 (l[j].toNat : Int)) := by
  unfold Bv; rw [List.getElem?_map, List.getElem?_eq_getElem h]; rfl
/-- A string's bytes, in a block of their own. -/
theorem bytes_of (w : World) (s : ByteArray) : ∃ C W, s.size ≤ C ∧ (convert 9 38 (.string s)).run Tryz.prog w = .ok (.slice (some ⟨w.heap.size, 0, none⟩) s.size C) W ∧ Rd W W.heap.size (some ⟨w.heap.size, 0, none⟩) (Bv s.data.toList) ∧ Below w.heap.size w W := by
  refine ⟨grownCap w s.size 0 5, _, grownCap_ge w s.size 0 5, run_bytes_of_string (P := Tryz.prog) w 9 38 5 s Tryz.underlying9 Tryz.underlying38 Tryz.underlying5, fun _ => ⟨w.heap.size, 0, rfl, by simp, fun j u hu => by
    rw [Nat.zero_add]
    refine (cell_of_row _ w.heap.size j _ _ _ (heap_alloc_new w.drew _)).trans ?_
    have hj := (List.getElem?_eq_some_iff.1 hu).1
    rw [Bv_len] at hj
    rw [Bv_get _ _ hj] at hu
    rw [bytesRow_at s _ j (by simpa using hj), ← hu]
    rfl⟩, (Below.refl w.heap.size w).drew.alloc (Nat.le_refl _) (.cells (bytesRow s (grownCap w s.size 0 5)) 5 ((bytesRow s (grownCap w s.size 0 5)).size, (bytesRow s (grownCap w s.size 0 5)).size + 1))⟩
theorem byte_cell {w : World} {B : Nat} {A : Option Addr} {l : List UInt8} (h : Rd w B A (Bv l)) (j : Nat) (hj : j < l.length) : ∃ g o, A = some ⟨g, o, none⟩ ∧ g < B ∧ w.cell? ⟨g, o + j, none⟩ = some (.int .u8 (l[j].toNat : Int)) := by
  obtain ⟨g, o, e, hb, hc⟩ := h (by intro e; have := congrArg List.length e; rw [Bv_len] at this; simp at this; rw [this] at hj; simp at hj)
  exact ⟨g, o, e, hb, hc j _ (Bv_get l j hj)⟩
theorem byte_ne (b : UInt8) : (((b.toNat : Nat) : Int) != 48) = decide (b ≠ 48) := by
  rw [Bool.eq_iff_iff, bne_iff_ne, decide_eq_true_iff]
  refine not_congr ⟨fun h => UInt8.toNat_inj.1 (by show b.toNat = 48; omega), fun h => by subst h; rfl⟩
/-- What isRow says of a string's bytes. -/
def digB (b : UInt8) : Bool := decide (48 ≤ b.toNat ∧ b.toNat ≤ 57)
def rowOk (l : List UInt8) : Bool := l.all digB && (decide (l = [48]) || (decide (l ≠ []) && decide (l[0]? ≠ some 48)))
set_option maxHeartbeats 2000000 in
theorem isRow_any (l : List UInt8) (w : World) (hl : l.length ≤ 1000000) : Calls Tryz.prog 81 #[.string ⟨l.toArray⟩] w fun e w' => e = .returned (.bool (rowOk l)) ∧ Below w.heap.size w w' := by
  obtain ⟨C, W, hC, hcv, hrd, hbl⟩ := bytes_of w ⟨l.toArray⟩
  have hsz : (⟨l.toArray⟩ : ByteArray).size = l.length := rfl
  rw [hsz] at hC hcv
  have hrd' : Rd W W.heap.size (some ⟨w.heap.size, 0, none⟩) (Bv l) := hrd
  have HB := Lib.hid hbl
  obtain ⟨n, hn⟩ : ∃ n, n = l.length := ⟨_, rfl⟩
  rw [← hn] at hcv hC
  have HN := Lib.hid hn
  have HR := Lib.hid hrd'
  have hnI : (n : Int) ≤ 1000000 := by omega
  clear hrd hrd' hbl hn hl hsz
  go_enter Tryz.func81, Tryz.ntmps81
  go_wp2
  go_loopw [8] (fun s wr => ∃ k : Nat, k ≤ n ∧ s = .int .i64 (k : Int) ∧ (l.take k).all digB = true ∧ wr = W) (fun s _ => n - (intOf s).toNat)
  case atStart => exact ⟨0, Nat.zero_le _, rfl, rfl, rfl⟩
  case round =>
    clear hcv
    obtain ⟨k, hk, rfl, hall, rfl⟩ := hrel
    have HA := Lib.hid hall
    clear hall
    rcases Nat.lt_or_ge k n with hlt | hge
    · have hkl : k < l.length := by have := HN.out; omega
      obtain ⟨g, o, e1, hgB, hcell⟩ := byte_cell HR.out k hkl
      cases e1
      rw [Nat.zero_add] at hcell
      have hkI : (k : Int) < (n : Int) := by omega
      have hb256 := l[k].toNat_lt
      by_cases hd : digB l[k] = true
      · have hd2 := of_decide_eq_true hd
        have HT := Lib.hid (show (l.take (k + 1)).all digB = true by
          rw [List.take_succ_eq_append_getElem hkl, List.all_append, HA.out, Bool.true_and]
          simp [hd])
        generalize l[k].toNat = b at *
        have hb1 : ¬ ((b : Int) < 48) := by omega
        have hb2 : ¬ (57 < (b : Int)) := by omega
        clear hd hd2
        go_wp2
        go_roundw
        case rel => exact ⟨k + 1, by omega, by simp, HT.out, by trivial⟩
        case measure => simp only [intOf]; omega
      · have hd2 : ¬ (48 ≤ l[k].toNat ∧ l[k].toNat ≤ 57) := fun h => hd (decide_eq_true h)
        have HF := Lib.hid (show rowOk l = false by
          have : l.all digB = false := by
            rw [← Bool.not_eq_true]
            intro h
            exact hd (List.all_eq_true.1 h _ (List.getElem_mem hkl))
          unfold rowOk; rw [this, Bool.false_and])
        generalize l[k].toNat = b at *
        clear hd
        by_cases hb1 : b < 48
        · have hb1I : (b : Int) < 48 := by omega
          clear hd2
          go_wp2
          go_ret
          exact ⟨by rw [HF.out]; rfl, HB.out⟩
        · have hb1I : ¬ ((b : Int) < 48) := by omega
          have hb2I : 57 < (b : Int) := by omega
          clear hd2
          go_wp2
          go_ret
          exact ⟨by rw [HF.out]; rfl, HB.out⟩
    · have hkn : k = n := by omega
      subst hkn
      have hA := HA.out
      rw [HN.out, List.take_length] at hA
      have HF := Lib.hid (show rowOk l = (decide (l = [48]) || (decide (l ≠ []) && decide (l[0]? ≠ some 48))) by unfold rowOk; rw [hA, Bool.true_and])
      have HB' := HB
      clear hA HA HR hk
      cases l with
      | nil =>
        have HF' := Lib.hid (show rowOk [] = false by rw [HF.out]; decide)
        clear HF
        go_wp2
        go_ret
        exact ⟨by rw [HF'.out]; rfl, HB'.out⟩
      | cons b l' =>
        have hpos : 0 < (b :: l').length := by simp
        by_cases h1 : b :: l' = [48]
        · have HF' := Lib.hid (show rowOk (b :: l') = true by rw [HF.out, decide_eq_true h1, Bool.true_or])
          have hbq : (b :: l' == [48]) = true := by rw [h1]; rfl
          clear HF h1
          go_wp2
          go_ret
          exact ⟨by rw [HF'.out]; rfl, HB'.out⟩
        · have hbq : (b :: l' == [48]) = false := by rw [beq_eq_false_iff_ne]; exact h1
          have HF' := Lib.hid (show rowOk (b :: l') = decide (b ≠ 48) by rw [HF.out, decide_eq_false h1]; simp)
          clear HF h1
          go_wp2
          go_ret
          exact ⟨by rw [HF'.out]; exact congrArg (fun z => Ending.returned (.bool z)) (byte_ne b), HB'.out⟩
end Go.Proofs.YtbfhilbagojdnaaGreat
namespace Go.Proofs.YtbfhilbagojdnaaGreat
open Go.RowKit Wr Go.Proofs.YtbfhilbagojdnaaGreat.Nm
set_option linter.unusedVariables false
set_option maxRecDepth 100000
def renC : Go.Shelf.Ren := ⟨fun | 145 => 80 | 217 => 137 | 219 => 132 | 220 => 118 | 224 => 139 | 225 => 138 | 266 => 141 | 267 => 140 | 314 => 142 | n => n, fun | 46 => 73 | 51 => 66 | 59 => 79 | 146 => 115 | n => n, fun | 1 => 2 | n => n⟩
theorem laysCut : Lays.n145 Tryz.prog renC := by
  constructor
  all_goals (intros; kernel_rfl)
/-- The library's variable MaxLen is there. -/
def MaxL (w : World) : Prop := ∃ m, w.cell? ⟨2, 0, none⟩ = some (.int .i64 m)
theorem MaxL.below {w w' : World} (h : MaxL w) (h2 : 2 < w.heap.size) (hb : Below w.heap.size w w') : MaxL w' := by
  obtain ⟨m, hm⟩ := h
  exact ⟨m, (hb.cell (p := ⟨2, 0, none⟩) h2).trans hm⟩
theorem cut_any (l : List UInt8) (w : World) (h : MaxL w) (hl : l.length < 4294967281) : Calls Tryz.prog 80 #[.string ⟨l.toArray⟩, .string ⟨#[47]⟩] w fun e w' =>
    e = .returned (.tuple #[.string ⟨(Lib.cut l [47]).1.toArray⟩, .string ⟨(Lib.cut l [47]).2.1.toArray⟩, .bool (Lib.cut l [47]).2.2]) ∧ ∃ n, w' = w.drewN n := by
  obtain ⟨m, hm⟩ := h
  exact Any.strings_Cut laysCut ⟨l.toArray⟩ ⟨#[47]⟩ m w hl hm
end Go.Proofs.YtbfhilbagojdnaaGreat
namespace Go.Proofs.YtbfhilbagojdnaaGreat
open Go.RowKit Wr Go.Proofs.YtbfhilbagojdnaaGreat.Nm
set_option linter.unusedVariables false
set_option maxRecDepth 100000

theorem rlimb_any (A : Option Addr) (c : Nat) (l : List Nat) (i B : Nat) (w : World) (hr : Rd w B A (Lc l)) (hl : l.length ≤ 1099511627776) (hi : i ≤ 1099511627776) (ho : Ok l) :
    Calls Tryz.prog 69 #[.slice A l.length c, .int .i64 (i : Int)] w fun e w' => e = .returned (.int .u64 (at0 l i : Nat)) ∧ w = w' := by
  by_cases hlt : i < l.length
  · obtain ⟨g, o, rfl, hg, hc⟩ := limb_cell hr i hlt
    have hx := at0_lt l ho i
    rw [at0_in l i hlt] at hx ⊢
    generalize l[i] = x at hc hx
    generalize l.length = n at hl hlt
    have i0 : (i : Int) < (n : Int) := by omega
    clear hr
    go_enter Tryz.func69, Tryz.ntmps69
    go_wp2
    go_ret
    exact ⟨rfl, rfl⟩
  · rw [at0_out l i (by omega)]
    generalize l.length = n at hl hlt
    have i0 : ¬ (i : Int) < (n : Int) := by omega
    clear hr
    go_enter Tryz.func69, Tryz.ntmps69
    go_wp2
    go_ret
    exact ⟨rfl, rfl⟩
theorem rd_take {w : World} {B : Nat} {A : Option Addr} {l : List Nat} (h : Rd w B A (Lc l)) (k : Nat) : Rd w B A (Lc (l.take k)) := fun hne => by
  have hl : Lc l ≠ [] := by
    intro e
    apply hne
    have h1 := congrArg List.length e
    rw [Lc_len] at h1
    have h2 : l = [] := List.length_eq_zero_iff.1 h1
    rw [h2]; simp [Lc]
  obtain ⟨g, o, e, hb, hc⟩ := h hl
  refine ⟨g, o, e, hb, fun j u hu => hc j u ?_⟩
  have hj := (List.getElem?_eq_some_iff.1 hu).1
  rw [Lc_len, List.length_take] at hj
  rw [Lc_get _ j (by rw [List.length_take]; exact hj), List.getElem_take] at hu
  rw [Lc_get _ j (by omega)]; exact hu
def OwP (w : World) (l : List Nat) (e : Ending) (w' : World) : Prop := ∃ v, e = .returned v ∧ w'.ownsRow w.heap.size 66 1 v l.length (Lc l) ∧ Below w.heap.size w w'
theorem own_sl {w : World} {base : Nat} {v : Value} {l : List Nat} (h : w.ownsRow base 66 1 v l.length (Lc l)) : Sl w v l := own_form h
theorem own_mono {w : World} {base base' : Nat} {e size n : Nat} {v : Value} {xs : List Value} (h : w.ownsRow base e size v n xs) (hb : base' ≤ base) : w.ownsRow base' e size v n xs :=
  ⟨h.1, h.2.imp id fun ⟨g, cap, cur, e1, hb2, r⟩ => ⟨g, cap, cur, e1, Nat.le_trans hb hb2, r⟩⟩
theorem OwP.sl {w : World} {l : List Nat} {e : Ending} {w' : World} (h : OwP w l e w') : CpP w l e w' := by
  obtain ⟨v, e, ho, hb⟩ := h
  exact ⟨v, e, own_sl ho, hb⟩
set_option maxHeartbeats 2000000 in
theorem trim_own {v : Value} {l : List Nat} {w : World} (h : Sl w v l) (hl : l.length ≤ 1000000) : Calls Tryz.prog 86 #[v] w (OwP w (dropz l)) := by
  obtain ⟨A, c, rfl, hc, hn, hr⟩ := h
  have hbs := bs0 w
  have hw1 : (w.alloc (.cells #[] 66)).ownsRow w.heap.size 66 1 (.slice (some ⟨w.heap.size, 0, none⟩) 0 0) 0 [] := World.ownsRow_lit w #[] 0 (Nat.le_refl _) (by unfold maxLen; omega) rfl
  have hr1 : Rd (w.alloc (.cells #[] 66)) w.heap.size A (Lc l) := hr.below ((Below.refl _ _).alloc (Nat.le_refl _) _)
  have hb1 : Below w.heap.size w (w.alloc (.cells #[] 66)) := (Below.refl _ _).alloc (Nat.le_refl _) _
  obtain ⟨N, hN⟩ : ∃ N, N = l.length := ⟨_, rfl⟩
  rw [← hN] at hl hc ⊢
  have HN := Lib.hid hN
  have HW1 := Lib.hid hw1; have HB1 := Lib.hid hb1; have HRT := Lib.hid (rd_take hr1); have HNIL := Lib.hid hn
  clear hN hw1 hr1 hb1 hn
  go_enter Tryz.func86, Tryz.ntmps86
  go_wp2
  go_loop [3] (fun s3 => ∃ k : Nat, k ≤ N ∧ s3 = .int .i64 k ∧ dropz (l.take k) = dropz l) (fun s3 => (intOf s3).toNat)
  case atStart => exact ⟨N, Nat.le_refl _, rfl, by rw [List.take_of_length_le (by rw [HN.out]; exact Nat.le_refl _)]⟩
  case round =>
    obtain ⟨k, hk, rfl, hd⟩ := hrel
    have HD := Lib.hid hd
    clear hd
    rcases Nat.eq_zero_or_pos k with h0 | h0
    · subst h0
      have HTK := Lib.hid (show l.take 0 = dropz l by rw [← HD.out]; simp [dropz])
      have HLEN := Lib.hid (show (l.take 0).length = 0 by simp)
      have hcI : (0 : Int) ≤ (c : Int) := by omega
      clear hr
      go_wp2_with (at_builtin; (refine wpList_append_lim rfl (.tmp 18) (.tmp 21) rfl w.heap.size _ 0 [] rfl HW1.out A 0 c w.heap.size (l.take (0)) rfl HNIL.out HLEN.out (HRT.out (0)) (by omega) (by simp) ?_))
      intro v' w' ho hg
      have hb := HB1.out.grown hg (by simp) (by intro e1 e2; simp [Value.ownBlock] at e2; try omega)
      have HX := Lib.hid (show w'.ownsRow w.heap.size 66 1 v' (l.take (0)).length (Lc (l.take (0))) by rw [HLEN.out]; simpa using ho)
      have HB := Lib.hid hb
      clear ho hg hb
      go_wp2
      go_ret
      exact ⟨v', rfl, by rw [← HTK.out]; exact HX.out, HB.out⟩
    · obtain ⟨j, rfl⟩ : ∃ j, k = j + 1 := ⟨k - 1, by omega⟩
      have hj : j < l.length := by have := HN.out; omega
      obtain ⟨g, o, e0, hg, hcell⟩ := limb_cell hr j hj
      have hz : ((j : Int) + 1) > 0 := by omega
      have hz1 : ((j + 1 : Nat) : Int) - 1 = (j : Int) := by omega
      have hjN : (j : Int) < (N : Int) := by omega
      by_cases hx : l[j] = 0
      · have e : dropz (l.take j) = dropz l := by rw [← HD.out, dropz_step l j hj hx]
        have E := Lib.hid e
        rw [hx] at hcell
        subst e0
        clear e hx hr hbs
        go_wp2
        go_round
        case rel => exact ⟨j, by omega, by go_num, E.out⟩
        case measure => simp only [intOf]; omega
      · have HTK := Lib.hid (show l.take (j + 1) = dropz l by rw [← HD.out, dropz_stop l j hj hx])
        have HLEN := Lib.hid (show (l.take (j + 1)).length = j + 1 by rw [List.length_take]; omega)
        have hne : (((l[j] : Nat) : Int) == 0) = false := by rw [beq_eq_false_iff_ne]; omega
        generalize l[j] = x at hcell hne
        have hcI : (j : Int) + 1 ≤ (c : Int) := by omega
        obtain ⟨a0, ha0⟩ : ∃ a, A = a := ⟨_, rfl⟩
        subst e0
        clear hx hr ha0 a0
        go_wp2_with (at_builtin; (refine wpList_append_lim rfl (.tmp 18) (.tmp 21) rfl w.heap.size _ 0 [] rfl HW1.out (some ⟨g, o, none⟩) (j + 1) c w.heap.size (l.take (j + 1)) rfl HNIL.out HLEN.out (HRT.out (j + 1)) (by omega) (by simp) ?_))
        intro v' w' ho hg
        have hb := HB1.out.grown hg (by simp) (by intro e1 e2; simp [Value.ownBlock] at e2; try omega)
        have HX := Lib.hid (show w'.ownsRow w.heap.size 66 1 v' (l.take (j + 1)).length (Lc (l.take (j + 1))) by rw [HLEN.out]; simpa using ho)
        have HB := Lib.hid hb
        clear ho hg hb
        go_wp2
        go_ret
        exact ⟨v', rfl, by rw [← HTK.out]; exact HX.out, HB.out⟩
theorem trim_any {v : Value} {l : List Nat} {w : World} (h : Sl w v l) (hl : l.length ≤ 1000000) : Calls Tryz.prog 86 #[v] w (CpP w (dropz l)) :=
  (trim_own h hl).mono fun _ _ ⟨v, e, ho, hb⟩ => ⟨v, e, own_sl ho, hb⟩
end Go.Proofs.YtbfhilbagojdnaaGreat
namespace Go.Proofs.YtbfhilbagojdnaaGreat
open Go.RowKit Wr Go.Proofs.YtbfhilbagojdnaaGreat.Nm
set_option linter.unusedVariables false
set_option maxRecDepth 100000

def pad (M : Nat) (l : List Nat) : List Nat := l ++ List.replicate (M - l.length) 0
theorem pad_len {M : Nat} {l : List Nat} (h : l.length ≤ M) : (pad M l).length = M := by simp [pad]; omega
theorem pad_num (M : Nat) (l : List Nat) : num (pad M l) = num l := by unfold pad; rw [num_append, num_rep]; simp
theorem pad_at {M : Nat} {l : List Nat} (i : Nat) (h : i < (pad M l).length) : (pad M l)[i] = at0 l i := by
  unfold pad at h ⊢
  by_cases hl : i < l.length
  · rw [List.getElem_append_left hl, at0_in l i hl]
  · rw [List.getElem_append_right (by omega), List.getElem_replicate, at0_out l i (by omega)]
theorem pad_ok (M : Nat) {l : List Nat} (h : Ok l) : Ok (pad M l) := by
  intro x hx
  rcases List.mem_append.1 hx with h1 | h1
  · exact h x h1
  · rw [List.mem_replicate] at h1; omega
set_option maxHeartbeats 2000000 in
theorem rcompare_any {v1 v2 : Value} {a b : List Nat} {w : World} (h1 : Sl w v1 a) (h2 : Sl w v2 b) (ha : Ok a) (hb : Ok b) (hl : a.length ≤ 1000000) (hl2 : b.length ≤ 1000000) : Calls Tryz.prog 98 #[v1, v2] w fun e w' => e = .returned (.int .i64 (ord (num a) (num b))) ∧ w = w' := by
  obtain ⟨A, c, rfl, hc, hn, hr⟩ := h1
  obtain ⟨A2, c2, rfl, hc2, hn2, hr2⟩ := h2
  obtain ⟨M, hM⟩ : ∃ m, m = max a.length b.length := ⟨_, rfl⟩
  have hMI : max (a.length : Int) (b.length : Int) = (M : Int) := by omega
  obtain ⟨R, hR⟩ : ∃ r, r = ord (num a) (num b) := ⟨_, rfl⟩
  have HR := Lib.hid hR
  rw [← hR]
  have HLa := Lib.hid (fun (j : Nat) (hj : j ≤ 1000000) => rlimb_any A c a j w.heap.size w hr (by omega) (by omega) ha)
  have HLb := Lib.hid (fun (j : Nat) (hj : j ≤ 1000000) => rlimb_any A2 c2 b j w.heap.size w hr2 (by omega) (by omega) hb)
  have HM := Lib.hid (show M ≤ 1000000 by omega)
  have HPa := Lib.hid (pad_len (show a.length ≤ M by omega)); have HPb := Lib.hid (pad_len (show b.length ≤ M by omega))
  have HOa := Lib.hid ha; have HOb := Lib.hid hb
  have HMI := hMI
  have hMb : (M : Int) ≤ 1000000 := by omega
  generalize a.length = la at HLa hMI HMI ⊢
  generalize b.length = lb at HLb hMI HMI ⊢
  clear hr hr2 hn hn2 hc hc2 hM hR ha hb hl hl2 hMI
  go_enter Tryz.func98, Tryz.ntmps98
  go_wp2
  go_loopw [5] (fun s5 wr => ∃ k : Nat, k ≤ M ∧ s5 = .int .i64 ((k : Int) - 1) ∧ (pad M a).drop k = (pad M b).drop k ∧ w = wr) (fun s5 _ => (intOf s5 + 1).toNat)
  case atStart =>
    refine ⟨M, Nat.le_refl _, ?_, ?_, rfl⟩
    · rfl
    · rw [List.drop_of_length_le (by rw [HPa.out]; exact Nat.le_refl _), List.drop_of_length_le (by rw [HPb.out]; exact Nat.le_refl _)]
  case round =>
    obtain ⟨k, hk, rfl, ht, rfl⟩ := hrel
    have HT := Lib.hid ht
    clear ht HMI
    rcases Nat.eq_zero_or_pos k with h0 | h0
    · subst h0
      have hz : R = 0 := by
        have e : pad M a = pad M b := by have := HT.out; simpa using this
        rw [HR.out, ← pad_num M a, ← pad_num M b, e, (ord_zero _ _).2 rfl]
      subst hz
      go_wp2
      go_ret
      exact ⟨rfl, rfl⟩
    · obtain ⟨j, rfl⟩ : ∃ j, k = j + 1 := ⟨k - 1, by omega⟩
      rw [show ((j + 1 : Nat) : Int) - 1 = (j : Int) by omega]
      have hja : j < (pad M a).length := by rw [HPa.out]; omega
      have hjb : j < (pad M b).length := by rw [HPb.out]; omega
      have hjI : (j : Int) ≤ 1000000 := by omega
      have CA := Lib.hid (HLa.out j (by have := HM.out; omega)); have CB := Lib.hid (HLb.out j (by have := HM.out; omega))
      have hax := at0_lt a HOa.out j
      have hbx := at0_lt b HOb.out j
      have pa := pad_at (M := M) (l := a) j hja
      have pb := pad_at (M := M) (l := b) j hjb
      have hlen : (pad M a).length = (pad M b).length := by rw [HPa.out, HPb.out]
      have hlt : at0 a j < at0 b j → R = -1 := fun h => by
        have := ord_at (pad M a) (pad M b) (pad_ok M HOa.out) (pad_ok M HOb.out) hlen j hja HT.out (by rw [pa, pb]; exact h)
        rw [pad_num, pad_num] at this
        rw [HR.out]; unfold ord; rw [if_pos this]
      have hgt : at0 b j < at0 a j → R = 1 := fun h => by
        have := ord_at (pad M b) (pad M a) (pad_ok M HOb.out) (pad_ok M HOa.out) hlen.symm j hjb HT.out.symm (by rw [pa, pb]; exact h)
        rw [pad_num, pad_num] at this
        rw [HR.out]; unfold ord; rw [if_neg (by omega), if_neg (by omega)]
      have heq : at0 a j = at0 b j → (pad M a).drop j = (pad M b).drop j := fun h => drop_eq_step j hja hjb HT.out (by rw [pa, pb]; exact h)
      have HLT := Lib.hid hlt; have HGT := Lib.hid hgt; have HEQ := Lib.hid heq
      generalize at0 a j = x at CA hax HLT HGT HEQ
      generalize at0 b j = y at CB hbx HLT HGT HEQ
      clear hlt hgt heq pa pb hlen hja hjb HLa HLb
      rcases Nat.lt_trichotomy x y with h | h | h
      · have hd : x < y := h
        have hR := HLT.out h
        subst hR
        clear h
        go_wp2_with (go_at_call 69; first | ((with_reducible refine CA.out.mono ?_); rintro e w' ⟨rfl, rfl⟩) | ((with_reducible refine CB.out.mono ?_); rintro e w' ⟨rfl, rfl⟩))
        go_ret
        exact ⟨rfl, rfl⟩
      · have hE := HEQ.out h
        have HE := Lib.hid hE
        subst h
        clear hE
        go_wp2_with (go_at_call 69; first | ((with_reducible refine CA.out.mono ?_); rintro e w' ⟨rfl, rfl⟩) | ((with_reducible refine CB.out.mono ?_); rintro e w' ⟨rfl, rfl⟩))
        go_roundw
        case rel => exact ⟨j, by omega, rfl, HE.out, by trivial⟩
        case measure => simp only [intOf]; omega
      · have hd1 : ¬ (x < y) := by omega
        have hd2 : y < x := h
        have hR := HGT.out h
        subst hR
        clear h
        go_wp2_with (go_at_call 69; first | ((with_reducible refine CA.out.mono ?_); rintro e w' ⟨rfl, rfl⟩) | ((with_reducible refine CB.out.mono ?_); rintro e w' ⟨rfl, rfl⟩))
        go_ret
        exact ⟨rfl, rfl⟩
end Go.Proofs.YtbfhilbagojdnaaGreat
namespace Go.Proofs.YtbfhilbagojdnaaGreat
open Go.RowKit Wr Go.Proofs.YtbfhilbagojdnaaGreat.Nm
set_option linter.unusedVariables false
set_option maxRecDepth 100000

/-- The carry of an addition below limb i. -/
def car (A B D : Nat) : Nat := (A % D + B % D) / D
theorem car_le (A B D : Nat) (h : 0 < D) : car A B D ≤ 1 := by
  unfold car
  have := Nat.mod_lt A h; have := Nat.mod_lt B h
  have : (A % D + B % D) / D < 2 := Nat.div_lt_of_lt_mul (by omega)
  omega
theorem car_div (A B D : Nat) (h : 0 < D) : (A + B) / D = A / D + B / D + car A B D := by
  unfold car
  have e1 := Nat.div_add_mod A D
  have e2 := Nat.div_add_mod B D
  have e : A + B = A % D + B % D + D * (A / D + B / D) := by rw [Nat.mul_add]; omega
  conv => lhs; rw [e]
  rw [Nat.add_mul_div_left _ _ h]; omega
theorem car_digit (A B D : Nat) (h : 0 < D) : (A / D % 4294967296 + B / D % 4294967296 + car A B D) % 4294967296 = (A + B) / D % 4294967296 := by
  rw [car_div A B D h]; omega
theorem car_next (A B D : Nat) (h : 0 < D) : (A / D % 4294967296 + B / D % 4294967296 + car A B D) / 4294967296 = car A B (D * 4294967296) := by
  have h2 : (A % (D * 4294967296) + B % (D * 4294967296)) / D = A / D % 4294967296 + B / D % 4294967296 + car A B D := by
    rw [Nat.mod_mul, Nat.mod_mul]
    have e : A % D + D * (A / D % 4294967296) + (B % D + D * (B / D % 4294967296)) = A % D + B % D + D * (A / D % 4294967296 + B / D % 4294967296) := by rw [Nat.mul_add]; omega
    rw [e, Nat.add_mul_div_left _ _ h]
    unfold car; omega
  rw [← h2, Nat.div_div_eq_div_mul]
  rfl
theorem bsOne (z : Int) (W : World) : (Instr.buildSlice 22 1 #[(0, .int .u32 z)]).run Tryz.prog W = .ok (.slice (some ⟨W.heap.size, 0, none⟩) 1 1) (W.alloc (.cells #[.int .u32 z] 66)) := by kernel_rfl
theorem rd_one (z : Nat) (W : World) : Rd (W.alloc (.cells #[.int .u32 ((z : Nat) : Int)] 66)) (W.heap.size + 1) (some ⟨W.heap.size, 0, none⟩) (Lc [z]) := (Rd.of_blk0 (Blk.new W 66 (Lc [z]))).more (by simp)
def PsR (w : World) (S A B N : Nat) (s5 s6 s7 : Value) (wr : World) : Prop := ∃ i : Nat, i ≤ N ∧ s7 = .int .i64 ((i : Nat) : Int) ∧ s6 = .int .u64 ((car A B (4294967296 ^ i) : Nat) : Int) ∧ wr.ownsRow w.heap.size 66 1 s5 i (Lc (digs i S)) ∧ Below w.heap.size w wr
set_option maxHeartbeats 4000000 in
theorem rplus_own {v1 v2 : Value} {a b : List Nat} {w : World} (h1 : Sl w v1 a) (h2 : Sl w v2 b) (ha : Ok a) (hb : Ok b) (hl : a.length ≤ 100000) (hl2 : b.length ≤ 100000) : Calls Tryz.prog 52 #[v1, v2] w (OwP w (lim (num a + num b))) := by
  obtain ⟨A, c, rfl, hc, hn, hr⟩ := h1
  obtain ⟨A2, c2, rfl, hc2, hn2, hr2⟩ := h2
  obtain ⟨M, hM⟩ : ∃ m, m = max a.length b.length := ⟨_, rfl⟩
  have hMI : max (a.length : Int) (b.length : Int) = (M : Int) := by omega
  have hMb : (M : Int) ≤ 100000 := by omega
  have HLa := Lib.hid (fun W (h : Below w.heap.size w W) (j : Nat) (hj : j ≤ 1000000) => rlimb_any A c a j W.heap.size W ((hr.below h).more h.size) (by omega) (by omega) ha)
  have HLb := Lib.hid (fun W (h : Below w.heap.size w W) (j : Nat) (hj : j ≤ 1000000) => rlimb_any A2 c2 b j W.heap.size W ((hr2.below h).more h.size) (by omega) (by omega) hb)
  have HSM := Lib.hid (show num a + num b < 4294967296 ^ (M + 1) by
    have e1 := Nat.lt_of_lt_of_le (num_lt a ha) (Nat.pow_le_pow_right (show 0 < 4294967296 by omega) (show a.length ≤ M by omega))
    have e2 := Nat.lt_of_lt_of_le (num_lt b hb) (Nat.pow_le_pow_right (show 0 < 4294967296 by omega) (show b.length ≤ M by omega))
    rw [Nat.pow_succ]
    generalize 4294967296 ^ M = p at *
    omega)
  have HOa := Lib.hid ha; have HOb := Lib.hid hb
  generalize a.length = la at HLa hMI ⊢
  generalize b.length = lb at HLb hMI ⊢
  clear hr hr2 hn hn2 hc hc2 hM ha hb hl hl2
  go_enter Tryz.func52, Tryz.ntmps52
  go_wp2
  go_loopw [5, 6, 7] (fun s5 s6 s7 wr => PsR w (num a + num b) (num a) (num b) (M + 1) s5 s6 s7 wr) (fun _ _ s7 _ => M + 1 - (intOf s7).toNat)
  case atStart => exact ⟨0, Nat.zero_le _, rfl, by simp [car, Nat.mod_one], World.ownsRow_nil _ _ _ _, Below.refl _ _⟩
  case round =>
    obtain ⟨i, hi, rfl, rfl, hown, hbel⟩ := hrel
    rcases Nat.lt_or_ge i (M + 1) with hlt | hge
    · have hx := at0_lt a HOa.out i
      have hy := at0_lt b HOb.out i
      have hD : 0 < 4294967296 ^ i := Nat.pow_pos (by omega)
      have hdig := car_digit (num a) (num b) (4294967296 ^ i) hD
      have hnx := car_next (num a) (num b) (4294967296 ^ i) hD
      rw [← at0_num a HOa.out, ← at0_num b HOb.out] at hdig hnx
      rw [← Nat.pow_succ] at hnx
      have hcl := car_le (num a) (num b) (4294967296 ^ i) hD
      have hds := digs_snoc i (num a + num b)
      rw [← hdig] at hds
      have CA := Lib.hid (HLa.out wr hbel i (by omega)); have CB := Lib.hid (HLb.out wr hbel i (by omega))
      obtain ⟨x, ex⟩ : ∃ x, x = at0 a i := ⟨_, rfl⟩
      obtain ⟨y, ey⟩ : ∃ y, y = at0 b i := ⟨_, rfl⟩
      obtain ⟨k, ek⟩ : ∃ k, k = car (num a) (num b) (4294967296 ^ i) := ⟨_, rfl⟩
      rw [← ex] at CA hx hnx hds
      rw [← ey] at CB hy hnx hds
      rw [← ek] at hnx hds hcl ⊢
      have HNX := Lib.hid hnx; have HDS := Lib.hid hds; have HOW := Lib.hid hown; have HBE := Lib.hid hbel
      have hiI : (i : Int) < (M : Int) + 1 := by omega
      have hsum : (x : Int) + (y : Int) + (k : Int) ≤ 8589934591 := by omega
      have hsum2 : (x : Int) + (y : Int) ≤ 8589934590 := by omega
      clear hnx hds hown hbel hdig hD ex ey ek hx hy hcl hlt
      have hbs := bsOne (((x : Int) + (y : Int) + (k : Int)) % 4294967296) wr
      have ez : (((x + y + k) % 4294967296 : Nat) : Int) = ((x : Int) + (y : Int) + (k : Int)) % 4294967296 := by omega
      have hrd := rd_one ((x + y + k) % 4294967296) wr
      rw [ez] at hrd
      have HRD := Lib.hid hrd
      have HOA := Lib.hid (HOW.out.alloc (.cells #[.int .u32 (((x : Int) + (y : Int) + (k : Int)) % 4294967296)] 66))
      have HBA := Lib.hid (HBE.out.alloc HBE.out.size (.cells #[.int .u32 (((x : Int) + (y : Int) + (k : Int)) % 4294967296)] 66))
      have HNX2 := Lib.hid (show ((x : Int) + (y : Int) + (k : Int)) / 4294967296 = ((car (num a) (num b) (4294967296 ^ (i + 1)) : Nat) : Int) by rw [← HNX.out]; omega)
      have HII := Lib.hid (show i + 1 ≤ 1073741824 ∧ i + 1 ≤ M + 1 by omega)
      clear hrd ez HOW HNX
      go_wp2_with (first | (go_at_call 69; first | ((with_reducible refine CA.out.mono ?_); rintro e w' ⟨rfl, rfl⟩) | ((with_reducible refine CB.out.mono ?_); rintro e w' ⟨rfl, rfl⟩)) | (at_builtin; (refine wpList_append_lim rfl (.tmp 28) (.tmp 31) rfl w.heap.size _ i (Lc (digs i (num a + num b))) rfl HOA.out (some ⟨wr.heap.size, 0, none⟩) 1 1 (wr.heap.size + 1) [(x + y + k) % 4294967296] rfl (fun e => by cases e) rfl HRD.out HII.out.1 HBA.out.size ?_)))
      intro v' w' ho hg
      have hb := HBA.out.grown hg HBA.out.size (fun q e => (HOA.out.lt q e).1)
      rw [← Lc_append, ← HDS.out] at ho
      have HO := Lib.hid ho; have HB := Lib.hid hb
      clear ho hg hb hbs
      go_wp2
      go_roundw
      case rel => exact ⟨i + 1, HII.out.2, by simp, by rw [HNX2.out], HO.out, HB.out⟩
      case measure => simp only [intOf]; omega
    · have hiM : i = M + 1 := by omega
      subst hiM
      obtain ⟨A', c', e, h1, h2, h3⟩ := own_form hown
      have HSL := Lib.hid (show Sl wr u5 (digs (M + 1) (num a + num b)) from ⟨A', c', by rw [e, digs_len], by rw [digs_len]; exact h1, h2, h3⟩)
      have HTR := Lib.hid (trim_own HSL.out (by rw [digs_len]; omega))
      rw [dropz_digs _ _ HSM.out] at HTR
      have HBE := Lib.hid hbel
      clear hown hbel e h1 h2 h3 hge hi
      go_wp2_with fail
      refine HTR.out.mono ?_
      rintro e w2 ⟨v, rfl, hs, hb⟩
      have HS := Lib.hid (own_mono hs HBE.out.size); have HB2 := Lib.hid (below_step HBE.out hb)
      clear hs hb
      go_wp2_with fail
      go_ret
      exact ⟨v, rfl, HS.out, HB2.out⟩
theorem rplus_any {v1 v2 : Value} {a b : List Nat} {w : World} (h1 : Sl w v1 a) (h2 : Sl w v2 b) (ha : Ok a) (hb : Ok b) (hl : a.length ≤ 100000) (hl2 : b.length ≤ 100000) : Calls Tryz.prog 52 #[v1, v2] w (CpP w (lim (num a + num b))) :=
  (rplus_own h1 h2 ha hb hl hl2).mono fun _ _ h => h.sl
end Go.Proofs.YtbfhilbagojdnaaGreat
namespace Go.Proofs.YtbfhilbagojdnaaGreat
open Go.RowKit Wr Go.Proofs.YtbfhilbagojdnaaGreat.Nm
set_option linter.unusedVariables false
set_option maxRecDepth 100000

set_option maxHeartbeats 1000000 in
theorem whole_any (x : Nat) (w : World) (hx : x < 9223372036854775808) : Calls Tryz.prog 35 #[.int .i64 ((x : Nat) : Int)] w (CpP w (lim x)) := by
  obtain ⟨a, ha⟩ : ∃ a, a = x % 4294967296 := ⟨_, rfl⟩
  obtain ⟨b, hb⟩ : ∃ b, b = x / 4294967296 := ⟨_, rfl⟩
  have ea : ((x : Int) % 4294967296) = (a : Int) := by omega
  have eb : ((x : Int) / 4294967296) = (b : Int) := by omega
  have eb2 : ((b : Int) % 4294967296) = (b : Int) := by omega
  have hbB : b < 4294967296 := by omega
  have hbs := bs2 (a : Int) (b : Int) w
  have hD : dropz [a, b] = lim x := by
    have e : digs 2 x = [a, b] := by
      simp only [digs]; rw [← ha, ← hb, Nat.mod_eq_of_lt hbB]
    rw [← e]; exact dropz_digs 2 x (by omega)
  have hSl : Sl (w.alloc (.cells #[.int .u32 (a : Int), .int .u32 (b : Int)] 66)) (.slice (some ⟨w.heap.size, 0, none⟩) 2 2) [a, b] :=
    ⟨_, 2, rfl, Nat.le_refl _, (fun e => by cases e), (Rd.of_blk0 (Blk.new w 66 (Lc [a, b]))).more (Blk.new w 66 (Lc [a, b])).lt⟩
  have HT := Lib.hid (trim_any hSl (by simp))
  rw [hD] at HT
  have HB := Lib.hid ((Below.refl w.heap.size w).alloc (Nat.le_refl _) (.cells #[.int .u32 (a : Int), .int .u32 (b : Int)] 66))
  clear hSl hD ha hb hbB
  go_enter Tryz.func35, Tryz.ntmps35
  go_wp2_with fail
  refine HT.out.mono ?_
  rintro e w2 ⟨v, rfl, hs, hb⟩
  have HS := Lib.hid hs; have HB2 := Lib.hid (below_step HB.out hb)
  clear hs hb
  go_wp2_with fail
  go_ret
  exact ⟨v, rfl, HS.out, HB2.out⟩
theorem odd_any {v : Value} {l : List Nat} {w : World} (h : Sl w v l) (ho : Ok l) (hl : l.length ≤ 1000000) : Calls Tryz.prog 123 #[v] w fun e w' => e = .returned (.bool (decide (num l % 2 = 1))) ∧ w = w' := by
  obtain ⟨A, c, rfl, hc, hn, hr⟩ := h
  have HL := Lib.hid (rlimb_any A c l 0 w.heap.size w hr (by omega) (by omega) ho)
  rw [show ((0 : Nat) : Int) = 0 from rfl] at HL
  have h0 := at0_num l ho 0
  rw [Nat.pow_zero, Nat.div_one] at h0
  have hlt := at0_lt l ho 0
  obtain ⟨x, hx⟩ : ∃ x, x = at0 l 0 := ⟨_, rfl⟩
  rw [← hx] at HL h0 hlt
  have e : decide (num l % 2 = 1) = decide (x % 2 = 1) := by
    have : num l % 2 = x % 2 := by omega
    rw [this]
  rw [e]
  rcases (show x % 2 = 0 ∨ x % 2 = 1 by omega) with h2 | h2
  · have hq : (x : Int) % 2 = 0 := by omega
    rw [h2]
    clear e h0 hr hn hc hx h2
    go_enter Tryz.func123, Tryz.ntmps123
    go_wp2_with (go_at_call 69; (with_reducible refine HL.out.mono ?_); rintro e w' ⟨rfl, rfl⟩)
    go_ret
    exact ⟨rfl, rfl⟩
  · have hq : (x : Int) % 2 = 1 := by omega
    rw [h2]
    clear e h0 hr hn hc hx h2
    go_enter Tryz.func123, Tryz.ntmps123
    go_wp2_with (go_at_call 69; (with_reducible refine HL.out.mono ?_); rintro e w' ⟨rfl, rfl⟩)
    go_ret
    exact ⟨rfl, rfl⟩
end Go.Proofs.YtbfhilbagojdnaaGreat
namespace Go.Proofs.YtbfhilbagojdnaaGreat
set_option linter.unusedVariables false
namespace Nm

/-- The borrow of a difference below limb i. -/
def brw (A B D : Nat) : Nat := if A % D < B % D then 1 else 0
theorem brw_le (A B D : Nat) : brw A B D ≤ 1 := by unfold brw; split <;> omega
theorem brw_digit (A B D : Nat) (h : 0 < D) (hAB : B ≤ A) : (A / D % 4294967296 + 4294967296 - B / D % 4294967296 - brw A B D) % 4294967296 = (A - B) / D % 4294967296 := by
  have e1 := Nat.div_add_mod A D
  have e2 := Nat.div_add_mod B D
  have m1 := Nat.mod_lt A h
  have m2 := Nat.mod_lt B h
  obtain ⟨qa, hqa⟩ : ∃ q, q = A / D := ⟨_, rfl⟩
  obtain ⟨qb, hqb⟩ : ∃ q, q = B / D := ⟨_, rfl⟩
  have hq : qb ≤ qa := by rw [hqa, hqb]; exact Nat.div_le_div_right hAB
  unfold brw
  rw [← hqa] at e1 ⊢
  rw [← hqb] at e2 ⊢
  generalize A % D = r at *
  generalize B % D = s at *
  by_cases hk : r < s
  · rw [if_pos hk]
    have hlt : qb + 1 ≤ qa := by
      rcases Nat.lt_or_ge qb qa with h1 | h1
      · exact h1
      · have : qa = qb := by omega
        subst this; omega
    obtain ⟨t, ht⟩ : ∃ t, qa = qb + 1 + t := ⟨qa - (qb + 1), by omega⟩
    have e : A - B = (r + D - s) + D * t := by
      have : D * qa = D * qb + D + D * t := by rw [ht, Nat.mul_add, Nat.mul_add, Nat.mul_one]
      omega
    rw [e, Nat.add_mul_div_left _ _ h, Nat.div_eq_of_lt (by omega)]
    omega
  · rw [if_neg hk]
    obtain ⟨t, ht⟩ : ∃ t, qa = qb + t := ⟨qa - qb, by omega⟩
    have e : A - B = (r - s) + D * t := by
      have : D * qa = D * qb + D * t := by rw [ht, Nat.mul_add]
      omega
    rw [e, Nat.add_mul_div_left _ _ h, Nat.div_eq_of_lt (by omega)]
    omega
theorem brw_next (A B D : Nat) (h : 0 < D) : 1 - (A / D % 4294967296 + 4294967296 - B / D % 4294967296 - brw A B D) / 4294967296 = brw A B (D * 4294967296) := by
  unfold brw
  rw [Nat.mod_mul, Nat.mod_mul]
  have m1 := Nat.mod_lt A h
  have m2 := Nat.mod_lt B h
  have a1 : A / D % 4294967296 < 4294967296 := Nat.mod_lt _ (by omega)
  have b1 : B / D % 4294967296 < 4294967296 := Nat.mod_lt _ (by omega)
  generalize A / D % 4294967296 = a at *
  generalize B / D % 4294967296 = b at *
  generalize A % D = r at *
  generalize B % D = s at *
  rcases Nat.lt_trichotomy a b with hab | hab | hab
  · obtain ⟨t, ht⟩ : ∃ t, b = a + 1 + t := ⟨b - (a + 1), by omega⟩
    have e : D * b = D * a + D + D * t := by rw [ht, Nat.mul_add, Nat.mul_add, Nat.mul_one]
    rw [if_pos (show r + D * a < s + D * b by omega)]
    split <;> omega
  · subst hab
    by_cases hk : r < s
    · rw [if_pos hk, if_pos (by omega)]; omega
    · rw [if_neg hk, if_neg (by omega)]; omega
  · obtain ⟨t, ht⟩ : ∃ t, a = b + 1 + t := ⟨a - (b + 1), by omega⟩
    have e : D * a = D * b + D + D * t := by rw [ht, Nat.mul_add, Nat.mul_add, Nat.mul_one]
    rw [if_neg (show ¬ (r + D * a < s + D * b) by omega)]
    split <;> omega
theorem brw_zero (A B : Nat) : brw A B 1 = 0 := by unfold brw; rw [Nat.mod_one, Nat.mod_one]; rfl
/-- A limb put in the place of another one. -/
theorem num_set : ∀ (l : List Nat) (j v : Nat) (h : j < l.length), num (l.set j v) + 4294967296 ^ j * l[j] = num l + 4294967296 ^ j * v
  | [], j, v, h => by simp at h
  | a :: l, 0, v, h => by
    simp only [List.set_cons_zero, num_cons, Nat.pow_zero, Nat.one_mul, List.getElem_cons_zero]; omega
  | a :: l, j + 1, v, h => by
    have ih := num_set l j v (by simpa using h)
    simp only [List.set_cons_succ, num_cons, List.getElem_cons_succ]
    have e : ∀ z, 4294967296 ^ (j + 1) * z = 4294967296 * (4294967296 ^ j * z) := fun z => by rw [Nat.pow_succ', Nat.mul_assoc]
    rw [e, e]
    omega
theorem ok_set {l : List Nat} (h : Ok l) (j v : Nat) (hv : v < 4294967296) : Ok (l.set j v) := by
  intro x hx
  rcases List.mem_or_eq_of_mem_set hx with h1 | h1
  · exact h x h1
  · omega
/-- One limb of the inner loop of Times. -/
theorem mul_step (l : List Nat) (P X Y i k carry : Nat) (h : i + k < l.length) (hl : Ok l) (hc : carry < 4294967296) (hX : X < 4294967296)
    (hinv : num l + 4294967296 ^ (i + k) * carry = P + 4294967296 ^ i * (X * (Y % 4294967296 ^ k))) :
    num (l.set (i + k) ((X * (Y / 4294967296 ^ k % 4294967296) + l[i + k] + carry) % 4294967296)) + 4294967296 ^ (i + (k + 1)) * ((X * (Y / 4294967296 ^ k % 4294967296) + l[i + k] + carry) / 4294967296) = P + 4294967296 ^ i * (X * (Y % 4294967296 ^ (k + 1))) ∧
    (X * (Y / 4294967296 ^ k % 4294967296) + l[i + k] + carry) / 4294967296 < 4294967296 := by
  have hy : Y / 4294967296 ^ k % 4294967296 < 4294967296 := Nat.mod_lt _ (by omega)
  have hmod : Y % 4294967296 ^ (k + 1) = Y % 4294967296 ^ k + 4294967296 ^ k * (Y / 4294967296 ^ k % 4294967296) := by rw [Nat.pow_succ, Nat.mod_mul]
  have hx := hl.get (i + k) h
  obtain ⟨y, ey⟩ : ∃ y, y = Y / 4294967296 ^ k % 4294967296 := ⟨_, rfl⟩
  rw [← ey] at hy hmod ⊢
  have hXy : X * y ≤ 4294967295 * 4294967295 := Nat.mul_le_mul (by omega) (by omega)
  obtain ⟨s, hs⟩ : ∃ s, s = X * y + l[i + k] + carry := ⟨_, rfl⟩
  have hns := num_set l (i + k) (s % 4294967296) h
  rw [← hs]
  refine ⟨?_, by omega⟩
  have e1 : 4294967296 ^ (i + (k + 1)) * (s / 4294967296) = 4294967296 ^ (i + k) * (4294967296 * (s / 4294967296)) := by rw [← Nat.add_assoc, Nat.pow_succ, Nat.mul_assoc]
  have e2 : 4294967296 ^ (i + k) * (s % 4294967296) + 4294967296 ^ (i + k) * (4294967296 * (s / 4294967296)) = 4294967296 ^ (i + k) * s := by
    rw [← Nat.mul_add, Nat.mod_add_div]
  have e3 : 4294967296 ^ (i + k) * s = 4294967296 ^ (i + k) * (X * y) + 4294967296 ^ (i + k) * l[i + k] + 4294967296 ^ (i + k) * carry := by
    rw [hs, Nat.mul_add, Nat.mul_add]
  have e4 : 4294967296 ^ i * (X * (Y % 4294967296 ^ (k + 1))) = 4294967296 ^ i * (X * (Y % 4294967296 ^ k)) + 4294967296 ^ (i + k) * (X * y) := by
    rw [hmod, Nat.mul_add, Nat.mul_add, Nat.pow_add, Nat.mul_left_comm X, Nat.mul_assoc (4294967296 ^ i) (4294967296 ^ k)]
  rw [e1, e4]
  omega
/-- The end of the inner loop of Times. -/
theorem mul_row (l : List Nat) (P X Y i lb carry T : Nat) (hY : Y < 4294967296 ^ lb) (hT : T < 4294967296 ^ (i + 1)) (hP : P + 4294967296 ^ i * (X * Y) = T * Y)
    (hinv : num l + 4294967296 ^ (i + (lb + 1)) * carry = P + 4294967296 ^ i * (X * (Y % 4294967296 ^ (lb + 1)))) : num l = T * Y ∧ carry = 0 := by
  have hY2 : Y < 4294967296 ^ (lb + 1) := by rw [Nat.pow_succ]; omega
  rw [Nat.mod_eq_of_lt hY2, hP] at hinv
  have h1 : T * Y < 4294967296 ^ (i + (lb + 1)) := by
    rw [show i + (lb + 1) = (i + 1) + lb by omega, Nat.pow_add]
    exact Nat.mul_lt_mul'' hT hY
  rcases Nat.eq_zero_or_pos carry with h0 | h0
  · subst h0
    rw [Nat.mul_zero] at hinv
    exact ⟨by omega, rfl⟩
  · have : 4294967296 ^ (i + (lb + 1)) * 1 ≤ 4294967296 ^ (i + (lb + 1)) * carry := Nat.mul_le_mul_left _ h0
    omega
/-- Half of a number, limb by limb. -/
theorem half_digit (V k : Nat) : V / 4294967296 ^ k % 4294967296 / 2 + V / 4294967296 ^ (k + 1) % 4294967296 % 2 * 2147483648 = V / 2 / 4294967296 ^ k % 4294967296 := by
  rw [Nat.pow_succ, ← Nat.div_div_eq_div_mul, Nat.div_div_eq_div_mul V 2, Nat.mul_comm 2, ← Nat.div_div_eq_div_mul V]
  generalize V / 4294967296 ^ k = z
  omega
end Nm
end Go.Proofs.YtbfhilbagojdnaaGreat
namespace Go.Proofs.YtbfhilbagojdnaaGreat
open Go.RowKit Wr Go.Proofs.YtbfhilbagojdnaaGreat.Nm
set_option linter.unusedVariables false
set_option maxRecDepth 100000

def MnR (w : World) (S A B N : Nat) (s5 s6 s7 : Value) (wr : World) : Prop := ∃ i : Nat, i ≤ N ∧ s7 = .int .i64 ((i : Nat) : Int) ∧ s6 = .int .u64 ((brw A B (4294967296 ^ i) : Nat) : Int) ∧ wr.ownsRow w.heap.size 66 1 s5 i (Lc (digs i S)) ∧ Below w.heap.size w wr
set_option maxHeartbeats 4000000 in
theorem rminus_own {v1 v2 : Value} {a b : List Nat} {w : World} (h1 : Sl w v1 a) (h2 : Sl w v2 b) (ha : Ok a) (hb : Ok b) (hl : a.length ≤ 100000) (hl2 : b.length ≤ 100000) (hle : num b ≤ num a) : Calls Tryz.prog 57 #[v1, v2] w (OwP w (lim (num a - num b))) := by
  obtain ⟨A, c, rfl, hc, hn, hr⟩ := h1
  obtain ⟨A2, c2, rfl, hc2, hn2, hr2⟩ := h2
  have HLa := Lib.hid (fun W (h : Below w.heap.size w W) (j : Nat) (hj : j ≤ 1000000) => rlimb_any A c a j W.heap.size W ((hr.below h).more h.size) (by omega) (by omega) ha)
  have HLb := Lib.hid (fun W (h : Below w.heap.size w W) (j : Nat) (hj : j ≤ 1000000) => rlimb_any A2 c2 b j W.heap.size W ((hr2.below h).more h.size) (by omega) (by omega) hb)
  obtain ⟨M, hM⟩ : ∃ m, m = a.length := ⟨_, rfl⟩
  have hMb : (M : Int) ≤ 100000 := by omega
  have HSM := Lib.hid (show num a - num b < 4294967296 ^ M by
    have e1 := num_lt a ha
    rw [← hM] at e1
    omega)
  have HOa := Lib.hid ha; have HOb := Lib.hid hb; have HLE := Lib.hid hle
  rw [← hM] at HLa ⊢
  generalize b.length = lb at HLb ⊢
  clear hr hr2 hn hn2 hc hc2 hM ha hb hl hl2 hle
  go_enter Tryz.func57, Tryz.ntmps57
  go_wp2
  go_loopw [5, 6, 7] (fun s5 s6 s7 wr => MnR w (num a - num b) (num a) (num b) M s5 s6 s7 wr) (fun _ _ s7 _ => M - (intOf s7).toNat)
  case atStart => exact ⟨0, Nat.zero_le _, rfl, by simp [brw_zero], World.ownsRow_nil _ _ _ _, Below.refl _ _⟩
  case round =>
    obtain ⟨i, hi, rfl, rfl, hown, hbel⟩ := hrel
    rcases Nat.lt_or_ge i M with hlt | hge
    · have hx := at0_lt a HOa.out i
      have hy := at0_lt b HOb.out i
      have hD : 0 < 4294967296 ^ i := Nat.pow_pos (by omega)
      have hdig := brw_digit (num a) (num b) (4294967296 ^ i) hD HLE.out
      have hnx := brw_next (num a) (num b) (4294967296 ^ i) hD
      rw [← at0_num a HOa.out, ← at0_num b HOb.out] at hdig hnx
      rw [← Nat.pow_succ] at hnx
      have hcl := brw_le (num a) (num b) (4294967296 ^ i)
      have hds := digs_snoc i (num a - num b)
      rw [← hdig] at hds
      have CA := Lib.hid (HLa.out wr hbel i (by omega)); have CB := Lib.hid (HLb.out wr hbel i (by omega))
      obtain ⟨x, ex⟩ : ∃ x, x = at0 a i := ⟨_, rfl⟩
      obtain ⟨y, ey⟩ : ∃ y, y = at0 b i := ⟨_, rfl⟩
      obtain ⟨k, ek⟩ : ∃ k, k = brw (num a) (num b) (4294967296 ^ i) := ⟨_, rfl⟩
      rw [← ex] at CA hx hnx hds
      rw [← ey] at CB hy hnx hds
      rw [← ek] at hnx hds hcl ⊢
      have HNX := Lib.hid hnx; have HDS := Lib.hid hds; have HOW := Lib.hid hown; have HBE := Lib.hid hbel
      have hiI : (i : Int) < (M : Int) := by omega
      have hs0 : 0 ≤ (x : Int) + 4294967296 := by omega
      have hs5 : (x : Int) + 4294967296 - (y : Int) ≤ 8589934591 := by omega
      have hs6 : (x : Int) + 4294967296 - (y : Int) - (k : Int) ≤ 8589934591 := by omega
      have hs7 : 0 ≤ (x : Int) + 4294967296 - (y : Int) := by omega
      have hs8 : 0 ≤ 1 - ((x : Int) + 4294967296 - (y : Int) - (k : Int)) / 4294967296 := by omega
      have hs9 : 1 - ((x : Int) + 4294967296 - (y : Int) - (k : Int)) / 4294967296 ≤ 1 := by omega
      have hs1 : (x : Int) + 4294967296 ≤ 8589934591 := by omega
      have hs2 : 1 ≤ (x : Int) + 4294967296 - (y : Int) := by omega
      have hs3 : 0 ≤ (x : Int) + 4294967296 - (y : Int) - (k : Int) := by omega
      have hs4 : ((x : Int) + 4294967296 - (y : Int) - (k : Int)) / 4294967296 ≤ 1 := by omega
      have ez : (((x + 4294967296 - y - k) % 4294967296 : Nat) : Int) = ((x : Int) + 4294967296 - (y : Int) - (k : Int)) % 4294967296 := by omega
      have hnI : 1 - ((x : Int) + 4294967296 - (y : Int) - (k : Int)) / 4294967296 = ((1 - (x + 4294967296 - y - k) / 4294967296 : Nat) : Int) := by omega
      clear hnx hds hown hbel hdig hD ex ey ek hlt
      have hbs := bsOne (((x : Int) + 4294967296 - (y : Int) - (k : Int)) % 4294967296) wr
      have hrd := rd_one ((x + 4294967296 - y - k) % 4294967296) wr
      rw [ez] at hrd
      have HRD := Lib.hid hrd
      have HOA := Lib.hid (HOW.out.alloc (.cells #[.int .u32 (((x : Int) + 4294967296 - (y : Int) - (k : Int)) % 4294967296)] 66))
      have HBA := Lib.hid (HBE.out.alloc HBE.out.size (.cells #[.int .u32 (((x : Int) + 4294967296 - (y : Int) - (k : Int)) % 4294967296)] 66))
      have HNX2 := Lib.hid (show 1 - ((x : Int) + 4294967296 - (y : Int) - (k : Int)) / 4294967296 = ((brw (num a) (num b) (4294967296 ^ (i + 1)) : Nat) : Int) by rw [hnI, HNX.out])
      have HII := Lib.hid (show i + 1 ≤ 1073741824 ∧ i + 1 ≤ M by omega)
      clear hrd ez HOW HNX hnI hx hy hcl
      go_wp2_with (first | (go_at_call 69; first | ((with_reducible refine CA.out.mono ?_); rintro e w' ⟨rfl, rfl⟩) | ((with_reducible refine CB.out.mono ?_); rintro e w' ⟨rfl, rfl⟩)) | (at_builtin; (refine wpList_append_lim rfl (.tmp 25) (.tmp 28) rfl w.heap.size _ i (Lc (digs i (num a - num b))) rfl HOA.out (some ⟨wr.heap.size, 0, none⟩) 1 1 (wr.heap.size + 1) [(x + 4294967296 - y - k) % 4294967296] rfl (fun e => by cases e) rfl HRD.out HII.out.1 HBA.out.size ?_)))
      intro v' w' ho hg
      have hb := HBA.out.grown hg HBA.out.size (fun q e => (HOA.out.lt q e).1)
      rw [← Lc_append, ← HDS.out] at ho
      have HO := Lib.hid ho; have HB := Lib.hid hb
      clear ho hg hb hbs
      go_wp2
      go_roundw
      case rel => exact ⟨i + 1, HII.out.2, by simp, by rw [HNX2.out], HO.out, HB.out⟩
      case measure => simp only [intOf]; omega
    · have hiM : i = M := by omega
      subst hiM
      obtain ⟨A', c', e, h1, h2, h3⟩ := own_form hown
      have HSL := Lib.hid (show Sl wr u5 (digs i (num a - num b)) from ⟨A', c', by rw [e, digs_len], by rw [digs_len]; exact h1, h2, h3⟩)
      have HTR := Lib.hid (trim_own HSL.out (by rw [digs_len]; omega))
      rw [dropz_digs _ _ HSM.out] at HTR
      have HBE := Lib.hid hbel
      clear hown hbel e h1 h2 h3 hge hi
      go_wp2_with fail
      refine HTR.out.mono ?_
      rintro e w2 ⟨v, rfl, hs, hb⟩
      have HS := Lib.hid (own_mono hs HBE.out.size); have HB2 := Lib.hid (below_step HBE.out hb)
      clear hs hb
      go_wp2_with fail
      go_ret
      exact ⟨v, rfl, HS.out, HB2.out⟩
end Go.Proofs.YtbfhilbagojdnaaGreat
namespace Go.Proofs.YtbfhilbagojdnaaGreat
open Go.RowKit Wr Go.Proofs.YtbfhilbagojdnaaGreat.Nm
set_option linter.unusedVariables false
set_option maxRecDepth 100000

/-- The own row of a product that is being made. -/
def TmI (w : World) (N i Y X : Nat) (l : List Nat) (wr : World) : Prop := l.length = N ∧ Ok l ∧ num l = X * Y ∧ Blk wr w.heap.size 66 (Lc l) ∧ Below w.heap.size w wr
def TmJ (w : World) (N i k P Y x : Nat) (s9 s10 : Value) (wr : World) : Prop := ∃ (l : List Nat) (carry : Nat), s10 = .int .i64 ((k : Nat) : Int) ∧ s9 = .int .u64 ((carry : Nat) : Int) ∧ carry < 4294967296 ∧ l.length = N ∧ Ok l ∧
  num l + 4294967296 ^ (i + k) * carry = P + 4294967296 ^ i * (x * (Y % 4294967296 ^ k)) ∧ Blk wr w.heap.size 66 (Lc l) ∧ Below w.heap.size w wr
theorem num_take_at (a : List Nat) (i : Nat) (h : i < a.length) : num (a.take (i + 1)) = num (a.take i) + 4294967296 ^ i * at0 a i := by rw [at0_in a i h]; exact num_take_succ a i h
theorem num_take_lt (a : List Nat) (ha : Ok a) (i : Nat) : num (a.take i) < 4294967296 ^ i := Nat.lt_of_lt_of_le (num_lt _ (ha.take i)) (Nat.pow_le_pow_right (by omega) (by rw [List.length_take]; omega))
set_option maxHeartbeats 4000000 in
theorem rtimes_own {v1 v2 : Value} {a b : List Nat} {w : World} (h1 : Sl w v1 a) (h2 : Sl w v2 b) (ha : Ok a) (hb : Ok b) (hl : a.length ≤ 40000) (hl2 : b.length ≤ 40000) : Calls Tryz.prog 53 #[v1, v2] w (OwP w (lim (num a * num b))) := by
  obtain ⟨A, c, rfl, hc, hn, hr⟩ := h1
  obtain ⟨A2, c2, rfl, hc2, hn2, hr2⟩ := h2
  have HLa := Lib.hid (fun W (h : Below w.heap.size w W) (j : Nat) (hj : j ≤ 1000000) => rlimb_any A c a j W.heap.size W ((hr.below h).more h.size) (by omega) (by omega) ha)
  have HLb := Lib.hid (fun W (h : Below w.heap.size w W) (j : Nat) (hj : j ≤ 1000000) => rlimb_any A2 c2 b j W.heap.size W ((hr2.below h).more h.size) (by omega) (by omega) hb)
  obtain ⟨la, hla⟩ : ∃ m, m = a.length := ⟨_, rfl⟩
  obtain ⟨lb, hlb⟩ : ∃ m, m = b.length := ⟨_, rfl⟩
  obtain ⟨Y, hY⟩ : ∃ y, y = num b := ⟨_, rfl⟩
  have hYlt : Y < 4294967296 ^ lb := by rw [hY, hlb]; exact num_lt b hb
  have hYat : ∀ k, at0 b k = Y / 4294967296 ^ k % 4294967296 := fun k => by rw [hY]; exact at0_num b hb k
  have HOa := Lib.hid ha; have HLA := Lib.hid hla; have HYL := Lib.hid hYlt; have HYA := Lib.hid hYat; have HOb := Lib.hid hb
  rw [← hla] at HLa hl ⊢
  rw [← hlb] at HLb hl2 ⊢
  rw [← hY]
  obtain ⟨N, hN⟩ : ∃ n, n = la + lb + 1 := ⟨_, rfl⟩
  have hmk := mk22 N (by omega)
  have ec : ((N : Nat) : Int) = (la : Int) + (lb : Int) + 1 := by omega
  rw [ec] at hmk
  have HN := Lib.hid hN
  clear hr hr2 hn hn2 hc hc2 ha hb hla hlb hY hYlt hYat ec hN
  go_enter Tryz.func53, Tryz.ntmps53
  go_wp2
  clear hmk
  go_loopw [6] (fun s7 wr => ∃ i : Nat, i ≤ la ∧ s7 = .int .i64 ((i : Nat) : Int) ∧ ∃ l, TmI w N i Y (num (a.take i)) l wr) (fun s7 _ => la - (intOf s7).toNat)
  case atStart =>
    refine ⟨0, Nat.zero_le _, rfl, List.replicate N 0, by simp, ok_rep _, by rw [num_rep, List.take_zero, show num [] = 0 from rfl, Nat.zero_mul], ?_, (Below.refl _ _).alloc (Nat.le_refl _) _⟩
    exact Blk.new w 66 (Lc (List.replicate N 0))
  case round =>
    obtain ⟨i, hi, rfl, l, hlen, hok, hnum, hblk, hbel⟩ := hrel
    rcases Nat.lt_or_ge i la with hlt | hge
    · have hx := at0_lt a HOa.out i
      have hP := num_take_at a i (by rw [← HLA.out]; exact hlt)
      have hPl := num_take_lt a HOa.out (i + 1)
      have HP := Lib.hid (And.intro hP hPl)
      obtain ⟨x, ex⟩ : ∃ x, x = at0 a i := ⟨_, rfl⟩
      rw [← ex] at hx HP
      have CA := Lib.hid (fun W (h : Below w.heap.size w W) => HLa.out W h i (by omega))
      rw [← ex] at CA
      have HI := Lib.hid (And.intro hlen (And.intro hok (And.intro hnum (And.intro hblk hbel))))
      have hiI : (i : Int) < (la : Int) := by omega
      obtain ⟨P, hPP⟩ : ∃ p, p = num (a.take i) * Y := ⟨_, rfl⟩
      rw [← hPP] at HI
      have HPP := Lib.hid hPP
      clear hP hPl ex hlen hok hnum hblk hbel hPP
      go_wp2
      go_loopw [7, 8] (fun s9 s10 wr => ∃ k : Nat, k ≤ lb + 1 ∧ TmJ w N i k P Y x s9 s10 wr) (fun _ s10 _ => lb + 1 - (intOf s10).toNat)
      case atStart =>
        obtain ⟨h1, h2, h3, h4, h5⟩ := HI.out
        exact ⟨0, Nat.zero_le _, l, 0, rfl, rfl, by omega, h1, h2, by rw [h3]; simp [Nat.mod_one], h4, h5⟩
      case round =>
        obtain ⟨k, hk, l2, carry, rfl, rfl, hcar, hlen, hok, hinv, hblk, hbel⟩ := hrel
        rcases Nat.lt_or_ge k (lb + 1) with hlt2 | hge2
        · have hik : i + k < l2.length := by rw [hlen, HN.out]; omega
          obtain ⟨hm1, hm2⟩ := mul_step l2 P x Y i k carry hik hok hcar hx hinv
          rw [← HYA.out k] at hm1 hm2
          have hy := at0_lt b HOb.out k
          have CB := Lib.hid (fun n => HLb.out (wr.drewN n) (below_drewN hbel n) k (by omega))
          have CA1 := Lib.hid (fun n => CA.out (wr.drewN n) (below_drewN hbel n))
          obtain ⟨y, ey⟩ : ∃ y, y = at0 b k := ⟨_, rfl⟩
          rw [← ey] at hm1 hm2 hy CB
          have hz := hok.get (i + k) hik
          have hcell : wr.cell? ⟨w.heap.size, i + k, none⟩ = some (.int .u32 ((l2[i + k] : Nat) : Int)) := by rw [hblk.cell, Lc_get l2 _ hik]
          have hfr := hblk.frozen (i + k)
          obtain ⟨z, ez⟩ : ∃ z, z = l2[i + k] := ⟨_, rfl⟩
          rw [← ez] at hm1 hm2 hz hcell
          obtain ⟨s, hs⟩ : ∃ s, s = (x * y + z + carry) := ⟨_, rfl⟩
          rw [← hs] at hm1 hm2
          have hput := hblk.put (i + k) (.int .u32 ((s % 4294967296 : Nat) : Int))
          rw [Lc_set] at hput
          have hokp := ok_set hok (i + k) (s % 4294967296) (by omega)
          have hbp := hbel.setCell (p := ⟨w.heap.size, i + k, none⟩) (Nat.le_refl _) (.int .u32 ((s % 4294967296 : Nat) : Int))
          have HQ := Lib.hid (And.intro hm1 (And.intro hm2 (And.intro hput (And.intro hokp hbp))))
          have HLEN := Lib.hid (show (l2.set (i + k) (s % 4294967296)).length = N by rw [List.length_set]; exact hlen)
          have b1 : x * y ≤ 4294967295 * 4294967295 := Nat.mul_le_mul (by omega) (by omega)
          have b2 : ((x * y : Nat) : Int) = (x : Int) * (y : Int) := by simp
          have b3 : ((x : Int) * (y : Int)) ≤ 18446744065119617025 := by omega
          have b0 : 0 ≤ ((x : Int) * (y : Int)) := by omega
          have eS : (x : Int) * (y : Int) + (z : Int) + (carry : Int) = (s : Int) := by omega
          have hs1 : (x : Int) * (y : Int) + (z : Int) ≤ 18446744069414584320 := by omega
          have hs2 : (x : Int) * (y : Int) + (z : Int) + (carry : Int) ≤ 18446744073709551615 := by omega
          have ei : ((i : Int) + (k : Int)).toNat = i + k := by omega
          have ej : (i : Int) + (k : Int) < (N : Int) := by have := HN.out; omega
          have ek : 0 ≤ (i : Int) + (k : Int) := by omega
          have el : (k : Int) ≤ (lb : Int) := by omega
          have ES := Lib.hid eS
          have HKI := Lib.hid (show k + 1 ≤ lb + 1 by omega)
          clear hm1 hm2 hput hokp hbp hinv hblk hbel hlen hok ey ez hs b1 b2 eS hcar hz hy hik hlt2
          go_wp2
          go_quiet (first | (with_reducible exact quiet_eq (CA1.out _)) | (with_reducible exact quiet_eq (CB.out _)))
          go_wp2
          go_roundw
          case rel =>
            obtain ⟨q1, q2, q3, q4, q5⟩ := HQ.out
            have ed : ((s / 4294967296 : Nat) : Int) = ((x : Int) * (y : Int) + (z : Int) + (carry : Int)) / 4294967296 := by rw [ES.out]; rfl
            have em : ((s % 4294967296 : Nat) : Int) = ((x : Int) * (y : Int) + (z : Int) + (carry : Int)) % 4294967296 := by rw [ES.out]; rfl
            refine ⟨k + 1, HKI.out, _, s / 4294967296, by go_num, by rw [ed], q2, HLEN.out, q4, q1, ?_, ?_⟩
            · rw [← em]; exact q3
            · rw [← em]; exact below_drewN q5 _
          case measure => simp only [intOf]; omega
        · have hkE : k = lb + 1 := by omega
          subst hkE
          obtain ⟨r1, r2⟩ := HP.out
          have hT : P + 4294967296 ^ i * (x * Y) = num (a.take (i + 1)) * Y := by rw [r1, HPP.out, Nat.add_mul, Nat.mul_assoc]
          obtain ⟨e1, e2⟩ := mul_row l2 P x Y i lb carry (num (a.take (i + 1))) HYL.out r2 hT hinv
          have HF := Lib.hid (show TmI w N (i + 1) Y (num (a.take (i + 1))) l2 wr from ⟨hlen, hok, e1, hblk, hbel⟩)
          have HII := Lib.hid (show i + 1 ≤ la by omega)
          clear hinv hblk hbel hlen hok e1 e2 hT r1 r2 hcar hge2
          go_wp2
          go_roundw
          case rel => exact ⟨i + 1, HII.out, by go_num, l2, HF.out⟩
          case measure => simp only [intOf]; omega
    · have hiE : i = la := by omega
      subst hiE
      have hn2 : num l = num a * Y := by rw [hnum, List.take_of_length_le (by rw [HLA.out]; exact Nat.le_refl _)]
      have hdz : dropz l = lim (num a * Y) := by rw [← hn2, lim_num l hok]
      have HSL := Lib.hid (show Sl wr (.slice (some ⟨w.heap.size, 0, none⟩) N N) l from ⟨_, N, by rw [hlen], by rw [hlen]; exact Nat.le_refl _, (fun e => by cases e), (Rd.of_blk0 hblk).more hblk.lt⟩)
      have HTR := Lib.hid (trim_own HSL.out (by rw [hlen, HN.out]; omega))
      rw [hdz] at HTR
      have HBE := Lib.hid hbel
      clear hn2 hdz hnum hok hlen hblk hbel hge hi
      go_wp2_with fail
      refine HTR.out.mono ?_
      rintro e w2 ⟨v, rfl, hs, hb⟩
      have HS := Lib.hid (own_mono hs HBE.out.size); have HB2 := Lib.hid (below_step HBE.out hb)
      clear hs hb
      go_wp2_with fail
      go_ret
      exact ⟨v, rfl, HS.out, HB2.out⟩
theorem rtimes_any {v1 v2 : Value} {a b : List Nat} {w : World} (h1 : Sl w v1 a) (h2 : Sl w v2 b) (ha : Ok a) (hb : Ok b) (hl : a.length ≤ 40000) (hl2 : b.length ≤ 40000) : Calls Tryz.prog 53 #[v1, v2] w (CpP w (lim (num a * num b))) :=
  (rtimes_own h1 h2 ha hb hl hl2).mono fun _ _ h => h.sl
end Go.Proofs.YtbfhilbagojdnaaGreat
namespace Go.Proofs.YtbfhilbagojdnaaGreat
open Go.RowKit Wr Go.Proofs.YtbfhilbagojdnaaGreat.Nm
set_option linter.unusedVariables false
set_option maxRecDepth 100000

theorem own_len {w : World} {base g n cap : Nat} {l : List Nat} (h : w.ownsRow base 66 1 (.slice (some ⟨g, 0, none⟩) n cap) n (Lc l)) : l.length = n := by have := h.1; rw [Lc_len] at this; omega
theorem own_cap {w : World} {base g n cap : Nat} {xs : List Value} (h : w.ownsRow base 66 1 (.slice (some ⟨g, 0, none⟩) n cap) n xs) : n ≤ cap := by
  rcases h.2 with ⟨h', _⟩ | ⟨g', cap', cur, h', hb, hg, hnc, hcm, hcs, htake⟩
  · simp at h'
  · simp only [Value.slice.injEq, Option.some.injEq, Addr.mk.injEq, and_true, true_and] at h'
    obtain ⟨rfl, rfl⟩ := h'
    exact hnc
theorem own_cut {w : World} {base g n cap k : Nat} {l : List Nat} (h : w.ownsRow base 66 1 (.slice (some ⟨g, 0, none⟩) n cap) n (Lc l)) (hk : k ≤ n) : w.ownsRow base 66 1 (.slice (some ⟨g, 0, none⟩) k cap) k (Lc (l.take k)) := by
  have hl := own_len h
  rcases h.2 with ⟨h', _⟩ | ⟨g', cap', cur, h', hb, hg, hnc, hcm, hcs, htake⟩
  · simp at h'
  · simp only [Value.slice.injEq, Option.some.injEq, Addr.mk.injEq, and_true, true_and] at h'
    obtain ⟨rfl, rfl⟩ := h'
    refine ⟨by rw [Lc_len, List.length_take]; omega, .inr ⟨g, cap, cur, rfl, hb, hg, by omega, hcm, hcs, ?_⟩⟩
    rw [← Lc_take, ← htake, List.take_take, Nat.mul_one, Nat.mul_one, Nat.min_eq_left hk]
theorem own_cell {w : World} {base g n cap : Nat} {l : List Nat} (h : w.ownsRow base 66 1 (.slice (some ⟨g, 0, none⟩) n cap) n (Lc l)) (k : Nat) (hk : k < l.length) : w.cell? ⟨g, k, none⟩ = some (.int .u32 ((l[k] : Nat) : Int)) := by
  have hl := own_len h
  rw [h.cellAt k (by omega), Lc_get l k hk]
theorem own_put {w : World} {base g n cap : Nat} {l : List Nat} (h : w.ownsRow base 66 1 (.slice (some ⟨g, 0, none⟩) n cap) n (Lc l)) (k x : Nat) : (w.setCell ⟨g, k, none⟩ (.int .u32 ((x : Nat) : Int))).ownsRow base 66 1 (.slice (some ⟨g, 0, none⟩) n cap) n (Lc (l.set k x)) := by
  have := (h.stored k (.int .u32 ((x : Nat) : Int))).1
  rwa [Lc_set] at this
theorem own_rd {w : World} {base g n cap : Nat} {l : List Nat} (h : w.ownsRow base 66 1 (.slice (some ⟨g, 0, none⟩) n cap) n (Lc l)) : Rd w w.heap.size (some ⟨g, 0, none⟩) (Lc l) := Rd.of_own h
theorem or31 (a b : Nat) (ha : a < 2147483648) (hb : b < 2) : bits BinOp.or IntKind.u32 ((a : Nat) : Int) ((b * 2147483648 : Nat) : Int) = ((a + b * 2147483648 : Nat) : Int) := by
  have e : (2 : Nat) ^ 31 = 2147483648 := by decide
  have h := or_add a b 31 (by rw [e]; exact ha)
  rw [e] at h
  rw [u32_or_nat _ _ (by omega) (by omega), h]
theorem grown_drew {w w' : World} {g : Option Nat} (h : w.grownBy w' g) (n : Nat) : w.grownBy (w'.drewN n) g := ⟨h.os, h.tape, h.output, h.size, h.block⟩
def HfP (w : World) (base g cap x : Nat) (e : Ending) (w' : World) : Prop := e = .returned (.slice (some ⟨g, 0, none⟩) (lim x).length cap) ∧ w'.ownsRow base 66 1 (.slice (some ⟨g, 0, none⟩) (lim x).length cap) (lim x).length (Lc (lim x)) ∧ w.grownBy w' (some g)
/-- The list while it is halved. -/
def hfL (l : List Nat) (V i : Nat) : List Nat := digs i (V / 2) ++ l.drop i
theorem hf_len (l : List Nat) (V i : Nat) (h : i ≤ l.length) : (hfL l V i).length = l.length := by unfold hfL; rw [List.length_append, digs_len, List.length_drop]; omega
theorem hf_at (l : List Nat) (V i : Nat) (h : i < l.length) : (hfL l V i)[i]'(by rw [hf_len l V i (by omega)]; exact h) = l[i] := by
  unfold hfL; rw [List.getElem_append_right (by rw [digs_len]; exact Nat.le_refl _)]; simp [digs_len]
theorem hf_at0 (l : List Nat) (V i k : Nat) (h : i ≤ k) : at0 (hfL l V i) k = at0 l k := by
  unfold at0 hfL
  rw [List.getD_eq_getElem?_getD, List.getD_eq_getElem?_getD, List.getElem?_append_right (by rw [digs_len]; exact h), digs_len, List.getElem?_drop, show i + (k - i) = k by omega]
theorem hf_ok {l : List Nat} (ho : Ok l) (V i : Nat) : Ok (hfL l V i) := (digs_ok _ _).append (ho.drop _)
theorem hf_step (l : List Nat) (ho : Ok l) (i : Nat) (h : i < l.length) : (hfL l (num l) i).set i (l[i] / 2 + at0 l (i + 1) % 2 * 2147483648) = hfL l (num l) (i + 1) := by
  have h1 := half_digit (num l) i
  rw [← at0_num l ho, ← at0_num l ho, at0_in l i h] at h1
  unfold hfL
  rw [set_snoc l _ i _ h (digs_len _ _), digs_snoc, h1]
set_option maxHeartbeats 2000000 in
theorem half_own {base g n cap : Nat} {l : List Nat} {w : World} (hown : w.ownsRow base 66 1 (.slice (some ⟨g, 0, none⟩) n cap) n (Lc l)) (ho : Ok l) (hn : n ≤ 1000000) : Calls Tryz.prog 124 #[.slice (some ⟨g, 0, none⟩) n cap] w (HfP w base g cap (num l / 2)) := by
  have hlen := own_len hown
  have hcap := own_cap hown
  obtain ⟨V, hV⟩ : ∃ v, v = num l := ⟨_, rfl⟩
  have HV := Lib.hid hV; have HO := Lib.hid ho; have HLEN := Lib.hid hlen
  have hVn : V / 2 < 4294967296 ^ n := by have := num_lt l ho; rw [hlen, ← hV] at this; omega
  have HVN := Lib.hid hVn
  rw [← hV]
  clear hV ho hVn hlen
  go_enter Tryz.func124, Tryz.ntmps124
  go_wp2
  go_loopw [4] (fun s4 wr => ∃ i : Nat, i ≤ n ∧ s4 = .int .i64 ((i : Nat) : Int) ∧ wr.ownsRow base 66 1 (.slice (some ⟨g, 0, none⟩) n cap) n (Lc (hfL l V i)) ∧ w.grownBy wr (some g)) (fun s4 _ => n - (intOf s4).toNat)
  case atStart => exact ⟨0, Nat.zero_le _, rfl, by simpa [hfL, digs] using hown, grown_refl _ _⟩
  case round =>
    clear hown
    obtain ⟨i, hi, rfl, hown, hg⟩ := hrel
    rcases Nat.lt_or_ge i n with hlt | hge
    · have hil : i < l.length := by rw [HLEN.out]; exact hlt
      have hcell := own_cell hown i (by rw [hf_len l V i (by omega)]; exact hil)
      rw [hf_at l V i hil] at hcell
      have hfr := hown.frozenAt i
      have CY := Lib.hid (fun n' => rlimb_any (some ⟨g, 0, none⟩) cap (hfL l V i) (i + 1) wr.heap.size (wr.drewN n') (own_rd hown) (by rw [hf_len l V i (by omega), HLEN.out]; omega) (by omega) (hf_ok HO.out V i))
      rw [hf_len l V i (by omega), HLEN.out, hf_at0 l V i (i + 1) (by omega), show ((i + 1 : Nat) : Int) = (i : Int) + 1 by omega] at CY
      have hst := hf_step l HO.out i hil
      rw [← HV.out] at hst
      have hz := HO.out.get i hil
      have hy := at0_lt l HO.out (i + 1)
      obtain ⟨z, ez⟩ : ∃ z, z = l[i] := ⟨_, rfl⟩
      obtain ⟨y, ey⟩ : ∃ y, y = at0 l (i + 1) := ⟨_, rfl⟩
      rw [← ez] at hcell hst hz
      rw [← ey] at CY hst hy
      have hor := or31 (z / 2) (y % 2) (by omega) (by omega)
      obtain ⟨r, er⟩ : ∃ r, r = z / 2 + y % 2 * 2147483648 := ⟨_, rfl⟩
      rw [← er] at hor hst
      obtain ⟨zh, ezh⟩ : ∃ q, q = z / 2 := ⟨_, rfl⟩
      obtain ⟨ys, eys⟩ : ∃ q, q = y * 2147483648 := ⟨_, rfl⟩
      obtain ⟨yt, eyt⟩ : ∃ q, q = y % 2 * 2147483648 := ⟨_, rfl⟩
      rw [← ezh, ← eyt] at hor
      have HOR := Lib.hid hor
      have HZH := Lib.hid (show (z : Int) / 2 = (zh : Int) by omega)
      have HYS := Lib.hid (show IntKind.u64.wrap ((y : Int) * 2147483648) = (ys : Int) by rw [eys, IntKind.wrap_u64]; omega)
      have HYT := Lib.hid (show IntKind.u32.wrap (ys : Int) = (yt : Int) by rw [eyt, eys, IntKind.wrap_u32]; omega)
      have hput := own_put hown i r
      rw [hst] at hput
      have HP := Lib.hid (And.intro hput (grown_put hg i (.int .u32 ((r : Nat) : Int))))
      have HIN := Lib.hid (show i + 1 ≤ n by omega)
      have hiI : (i : Int) < (n : Int) := by omega
      have CY := Lib.hid (CY.out 1)
      have HP : Hid (((wr.drewN 1).setCell ⟨g, i, none⟩ (.int .u32 ((r : Nat) : Int))).ownsRow base 66 1 (.slice (some ⟨g, 0, none⟩) n cap) n (Lc (hfL l V (i + 1))) ∧ w.grownBy ((wr.drewN 1).setCell ⟨g, i, none⟩ (.int .u32 ((r : Nat) : Int))) (some g)) := Lib.hid ⟨HP.out.1, ⟨HP.out.2.os, HP.out.2.tape, HP.out.2.output, HP.out.2.size, HP.out.2.block⟩⟩
      have hcell : (World.drew wr).cell? ⟨g, i, none⟩ = some (.int .u32 ((z : Nat) : Int)) := hcell
      have hfr : (World.drew wr).frozen? ⟨g, i, none⟩ = false := hfr
      have CY : Hid (Calls Tryz.prog 69 #[.slice (some ⟨g, 0, none⟩) n cap, .int .i64 ((i : Int) + 1)] (World.drew wr) fun e w' => e = .returned (.int .u64 ((y : Nat) : Int)) ∧ World.drew wr = w') := CY
      have HP : Hid (((World.drew wr).setCell ⟨g, i, none⟩ (.int .u32 ((r : Nat) : Int))).ownsRow base 66 1 (.slice (some ⟨g, 0, none⟩) n cap) n (Lc (hfL l V (i + 1))) ∧ w.grownBy ((World.drew wr).setCell ⟨g, i, none⟩ (.int .u32 ((r : Nat) : Int))) (some g)) := HP
      clear hst hput hor er ezh eys eyt ez ey hown hg hz hy hil hlt
      go_wp2
      refine wp_region_any (by kernel_rfl) ?_
      change wpAny _ _ _ _ _ _ _ (World.drew wr)
      generalize World.drew wr = wd at hcell hfr CY HP ⊢
      refine wpAny_take (i := 0) (oi := { dst := some 12, op := Op.move (Operand.tmp 0), type := 22, pos := "ref.go:86", after := #[], guard := none }) (v := .slice (some ⟨g, 0, none⟩) n cap) rfl (by kernel_rfl) (by kernel_rfl) (by kernel_rfl) (fun _ _ _ h => h) (Or.inl ⟨by rfl, fun W => ?y1⟩) ?_
      case y1 => go_simp
      try dsimp only [Act.put]
      try simp only [List.setIfInBounds_toArray, List.set_cons_zero, List.set_cons_succ]
      refine wpAny_take (i := 1) (oi := { dst := some 13, op := Op.move (Operand.tmp 4), type := 3, pos := "ref.go:86", after := #[], guard := none }) (v := .int .i64 ((i : Nat) : Int)) rfl (by kernel_rfl) (by kernel_rfl) (by kernel_rfl) (fun _ _ _ h => h) (Or.inl ⟨by rfl, fun W => ?y2⟩) ?_
      case y2 => go_simp
      try dsimp only [Act.put]
      try simp only [List.setIfInBounds_toArray, List.set_cons_zero, List.set_cons_succ]
      refine wpAny_take (i := 2) (oi := { dst := some 14, op := Op.move (Operand.tmp 0), type := 22, pos := "ref.go:86", after := #[], guard := none }) (v := .slice (some ⟨g, 0, none⟩) n cap) rfl (by kernel_rfl) (by kernel_rfl) (by kernel_rfl) (fun _ _ _ h => h) (Or.inl ⟨by rfl, fun W => ?y3⟩) ?_
      case y3 => go_simp
      try dsimp only [Act.put]
      try simp only [List.setIfInBounds_toArray, List.set_cons_zero, List.set_cons_succ]
      refine wpAny_take (i := 3) (oi := { dst := some 15, op := Op.move (Operand.tmp 4), type := 3, pos := "ref.go:86", after := #[], guard := none }) (v := .int .i64 ((i : Nat) : Int)) rfl (by kernel_rfl) (by kernel_rfl) (by kernel_rfl) (fun _ _ _ h => h) (Or.inl ⟨by rfl, fun W => ?y4⟩) ?_
      case y4 => go_simp
      try dsimp only [Act.put]
      try simp only [List.setIfInBounds_toArray, List.set_cons_zero, List.set_cons_succ]
      refine wpAny_take (i := 4) (oi := { dst := some 16, op := Op.indexAddr 22 (Operand.tmp 14) (Operand.tmp 15), type := 0, pos := "ref.go:86", after := #[{ on := 2, ground := Ground.data }, { on := 3, ground := Ground.data }], guard := none }) (v := .pointer (some ⟨g, i, none⟩)) rfl (by kernel_rfl) (by kernel_rfl) (by kernel_rfl) (fun _ _ _ h => h) (Or.inl ⟨by rfl, fun W => ?y5⟩) ?_
      case y5 => go_simp
      try dsimp only [Act.put]
      try simp only [List.setIfInBounds_toArray, List.set_cons_zero, List.set_cons_succ]
      refine wpAny_take (i := 7) (oi := { dst := some 19, op := Op.move (Operand.tmp 0), type := 22, pos := "ref.go:86", after := #[], guard := none }) (v := .slice (some ⟨g, 0, none⟩) n cap) rfl (by kernel_rfl) (by kernel_rfl) (by kernel_rfl) (fun _ _ _ h => h) (Or.inl ⟨by rfl, fun W => ?y6⟩) ?_
      case y6 => go_simp
      try dsimp only [Act.put]
      try simp only [List.setIfInBounds_toArray, List.set_cons_zero, List.set_cons_succ]
      refine wpAny_take (i := 8) (oi := { dst := some 20, op := Op.move (Operand.tmp 4), type := 3, pos := "ref.go:86", after := #[], guard := none }) (v := .int .i64 ((i : Nat) : Int)) rfl (by kernel_rfl) (by kernel_rfl) (by kernel_rfl) (fun _ _ _ h => h) (Or.inl ⟨by rfl, fun W => ?y7⟩) ?_
      case y7 => go_simp
      try dsimp only [Act.put]
      try simp only [List.setIfInBounds_toArray, List.set_cons_zero, List.set_cons_succ]
      refine wpAny_take (i := 9) (oi := { dst := some 21, op := Op.binOp BinOp.add 3 (Operand.tmp 20) (Operand.const (Value.int IntKind.i64 1)) 3, type := 3, pos := "ref.go:86", after := #[{ on := 8, ground := Ground.data }], guard := none }) (v := .int .i64 ((i : Int) + 1)) rfl (by kernel_rfl) (by kernel_rfl) (by kernel_rfl) (fun _ _ _ h => h) (Or.inl ⟨by rfl, fun W => (by go_simp; exact IntWalk.i64_in _ (by omega))⟩) ?_
      try dsimp only [Act.put]
      try simp only [List.setIfInBounds_toArray, List.set_cons_zero, List.set_cons_succ]
      refine wpAny_ready (rs := [5, 10]) (by kernel_rfl) (by simp) ?_
      refine AllReady.cons (o := { dst := some 17, op := Op.load 66 (Operand.tmp 16), type := 66, pos := "ref.go:86", after := #[{ on := 4, ground := Ground.data }], guard := none }) rfl (fun K hK => ?_) (AllReady.cons (o := { dst := some 22, op := Op.call { callee := Callee.value (Operand.func 69), args := #[Operand.tmp 19, Operand.tmp 21], argTypes := #[22, 3] }, type := 74, pos := "ref.go:86", after := #[{ on := 7, ground := Ground.data }, { on := 9, ground := Ground.data }], guard := none }) rfl (fun K hK => ?_) AllReady.nil)
      · rw [if_pos (by rfl)]
        go_simp
        (try (refine hK _ _ ?_; clear hK K))
        try dsimp only [Act.put]
        try simp only [List.setIfInBounds_toArray, List.set_cons_zero, List.set_cons_succ]
        refine wpAny_take (i := 6) (oi := { dst := some 18, op := Op.binOp BinOp.shr 66 (Operand.tmp 17) (Operand.const (Value.int IntKind.u64 1)) 73, type := 66, pos := "ref.go:86", after := #[{ on := 5, ground := Ground.data }], guard := none }) (v := .int .u32 ((zh : Nat) : Int)) rfl (by kernel_rfl) (by kernel_rfl) (by kernel_rfl) (fun _ _ _ h => h) (Or.inl ⟨by rfl, fun W => (by have h := HZH.out; go_simp)⟩) ?_
        try dsimp only [Act.put]
        try simp only [List.setIfInBounds_toArray, List.set_cons_zero, List.set_cons_succ]
        refine wpAny_ready (rs := [10]) (by kernel_rfl) (by simp) ?_
        refine AllReady.cons (o := { dst := some 22, op := Op.call { callee := Callee.value (Operand.func 69), args := #[Operand.tmp 19, Operand.tmp 21], argTypes := #[22, 3] }, type := 74, pos := "ref.go:86", after := #[{ on := 7, ground := Ground.data }, { on := 9, ground := Ground.data }], guard := none }) rfl (fun K hK => ?_) AllReady.nil
        rw [if_pos (by rfl)]
        go_simp
        refine CY.out.mono ?_; rintro e wx ⟨rfl, rfl⟩
        go_wp2_with fail
        (try (refine hK _ _ ?_; clear hK K))
        try dsimp only [Act.put]
        try simp only [List.setIfInBounds_toArray, List.set_cons_zero, List.set_cons_succ]
        refine wpAny_take (i := 11) (oi := { dst := some 23, op := Op.binOp BinOp.shl 74 (Operand.tmp 22) (Operand.const (Value.int IntKind.u64 31)) 73, type := 74, pos := "ref.go:86", after := #[{ on := 10, ground := Ground.data }], guard := none }) (v := .int .u64 ((ys : Nat) : Int)) rfl (by kernel_rfl) (by kernel_rfl) (by kernel_rfl) (fun _ _ _ h => h) (Or.inl ⟨by rfl, fun W => (by have h := HYS.out; go_simp)⟩) ?_
        try dsimp only [Act.put]
        try simp only [List.setIfInBounds_toArray, List.set_cons_zero, List.set_cons_succ]
        refine wpAny_take (i := 12) (oi := { dst := some 24, op := Op.convert 74 66 (Operand.tmp 23), type := 66, pos := "ref.go:86", after := #[{ on := 11, ground := Ground.data }], guard := none }) (v := .int .u32 ((yt : Nat) : Int)) rfl (by kernel_rfl) (by kernel_rfl) (by kernel_rfl) (fun _ _ _ h => h) (Or.inl ⟨by rfl, fun W => (by have h := HYT.out; go_simp)⟩) ?_
        try dsimp only [Act.put]
        try simp only [List.setIfInBounds_toArray, List.set_cons_zero, List.set_cons_succ]
        refine wpAny_take (i := 13) (oi := { dst := some 25, op := Op.binOp BinOp.or 66 (Operand.tmp 18) (Operand.tmp 24) 66, type := 66, pos := "ref.go:86", after := #[{ on := 6, ground := Ground.data }, { on := 12, ground := Ground.data }], guard := none }) (v := .int .u32 ((r : Nat) : Int)) rfl (by kernel_rfl) (by kernel_rfl) (by kernel_rfl) (fun _ _ _ h => h) (Or.inl ⟨by rfl, fun W => (by have h := HOR.out; go_simp)⟩) ?_
        try dsimp only [Act.put]
        try simp only [List.setIfInBounds_toArray, List.set_cons_zero, List.set_cons_succ]
        refine wpAny_take (i := 14) (oi := { dst := some 26, op := Op.indexAddr 22 (Operand.tmp 12) (Operand.tmp 13), type := 0, pos := "ref.go:86", after := #[{ on := 0, ground := Ground.data }, { on := 1, ground := Ground.data }, { on := 0, ground := Ground.phase }, { on := 1, ground := Ground.phase }, { on := 2, ground := Ground.phase }, { on := 3, ground := Ground.phase }, { on := 4, ground := Ground.phase }, { on := 5, ground := Ground.phase }, { on := 6, ground := Ground.phase }, { on := 7, ground := Ground.phase }, { on := 8, ground := Ground.phase }, { on := 9, ground := Ground.phase }, { on := 10, ground := Ground.phase }, { on := 11, ground := Ground.phase }, { on := 12, ground := Ground.phase }, { on := 13, ground := Ground.phase }], guard := none }) (v := .pointer (some ⟨g, i, none⟩)) rfl (by kernel_rfl) (by kernel_rfl) (by kernel_rfl) (fun _ _ _ h => h) (Or.inl ⟨by rfl, fun W => ?y13⟩) ?_
        case y13 => go_simp
        try dsimp only [Act.put]
        try simp only [List.setIfInBounds_toArray, List.set_cons_zero, List.set_cons_succ]
        refine wpAny_ready (rs := [15]) (by kernel_rfl) (by simp) ?_
        refine AllReady.cons (o := { dst := none, op := Op.store 66 (Operand.tmp 26) (Operand.tmp 25), type := 0, pos := "ref.go:86", after := #[{ on := 14, ground := Ground.data }, { on := 13, ground := Ground.data }, { on := 10, ground := Ground.chain }, { on := 0, ground := Ground.phase }, { on := 1, ground := Ground.phase }, { on := 2, ground := Ground.phase }, { on := 3, ground := Ground.phase }, { on := 4, ground := Ground.phase }, { on := 5, ground := Ground.phase }, { on := 6, ground := Ground.phase }, { on := 7, ground := Ground.phase }, { on := 8, ground := Ground.phase }, { on := 9, ground := Ground.phase }, { on := 10, ground := Ground.phase }, { on := 11, ground := Ground.phase }, { on := 12, ground := Ground.phase }, { on := 13, ground := Ground.phase }], guard := none }) rfl (fun K hK => ?_) AllReady.nil
        rw [if_pos (by rfl)]
        go_simp
        (try (refine hK _ _ ?_; clear hK K))
        try dsimp only [Act.put]
        try simp only [List.setIfInBounds_toArray, List.set_cons_zero, List.set_cons_succ]
        refine wpAny_done (by kernel_rfl) ?_ _
        try dsimp only [Act.put]
        try simp only [List.setIfInBounds_toArray, List.set_cons_zero, List.set_cons_succ]
        go_wp2
        go_roundw
        case rel => exact ⟨i + 1, HIN.out, by go_num, HP.out.1, HP.out.2⟩
        case measure => simp only [intOf]; omega
      · rw [if_pos (by rfl)]
        go_simp
        refine CY.out.mono ?_; rintro e wx ⟨rfl, rfl⟩
        go_wp2_with fail
        (try (refine hK _ _ ?_; clear hK K))
        try dsimp only [Act.put]
        try simp only [List.setIfInBounds_toArray, List.set_cons_zero, List.set_cons_succ]
        refine wpAny_take (i := 11) (oi := { dst := some 23, op := Op.binOp BinOp.shl 74 (Operand.tmp 22) (Operand.const (Value.int IntKind.u64 31)) 73, type := 74, pos := "ref.go:86", after := #[{ on := 10, ground := Ground.data }], guard := none }) (v := .int .u64 ((ys : Nat) : Int)) rfl (by kernel_rfl) (by kernel_rfl) (by kernel_rfl) (fun _ _ _ h => h) (Or.inl ⟨by rfl, fun W => (by have h := HYS.out; go_simp)⟩) ?_
        try dsimp only [Act.put]
        try simp only [List.setIfInBounds_toArray, List.set_cons_zero, List.set_cons_succ]
        refine wpAny_take (i := 12) (oi := { dst := some 24, op := Op.convert 74 66 (Operand.tmp 23), type := 66, pos := "ref.go:86", after := #[{ on := 11, ground := Ground.data }], guard := none }) (v := .int .u32 ((yt : Nat) : Int)) rfl (by kernel_rfl) (by kernel_rfl) (by kernel_rfl) (fun _ _ _ h => h) (Or.inl ⟨by rfl, fun W => (by have h := HYT.out; go_simp)⟩) ?_
        try dsimp only [Act.put]
        try simp only [List.setIfInBounds_toArray, List.set_cons_zero, List.set_cons_succ]
        refine wpAny_ready (rs := [5]) (by kernel_rfl) (by simp) ?_
        refine AllReady.cons (o := { dst := some 17, op := Op.load 66 (Operand.tmp 16), type := 66, pos := "ref.go:86", after := #[{ on := 4, ground := Ground.data }], guard := none }) rfl (fun K hK => ?_) AllReady.nil
        rw [if_pos (by rfl)]
        go_simp
        (try (refine hK _ _ ?_; clear hK K))
        try dsimp only [Act.put]
        try simp only [List.setIfInBounds_toArray, List.set_cons_zero, List.set_cons_succ]
        refine wpAny_take (i := 6) (oi := { dst := some 18, op := Op.binOp BinOp.shr 66 (Operand.tmp 17) (Operand.const (Value.int IntKind.u64 1)) 73, type := 66, pos := "ref.go:86", after := #[{ on := 5, ground := Ground.data }], guard := none }) (v := .int .u32 ((zh : Nat) : Int)) rfl (by kernel_rfl) (by kernel_rfl) (by kernel_rfl) (fun _ _ _ h => h) (Or.inl ⟨by rfl, fun W => (by have h := HZH.out; go_simp)⟩) ?_
        try dsimp only [Act.put]
        try simp only [List.setIfInBounds_toArray, List.set_cons_zero, List.set_cons_succ]
        refine wpAny_take (i := 13) (oi := { dst := some 25, op := Op.binOp BinOp.or 66 (Operand.tmp 18) (Operand.tmp 24) 66, type := 66, pos := "ref.go:86", after := #[{ on := 6, ground := Ground.data }, { on := 12, ground := Ground.data }], guard := none }) (v := .int .u32 ((r : Nat) : Int)) rfl (by kernel_rfl) (by kernel_rfl) (by kernel_rfl) (fun _ _ _ h => h) (Or.inl ⟨by rfl, fun W => (by have h := HOR.out; go_simp)⟩) ?_
        try dsimp only [Act.put]
        try simp only [List.setIfInBounds_toArray, List.set_cons_zero, List.set_cons_succ]
        refine wpAny_take (i := 14) (oi := { dst := some 26, op := Op.indexAddr 22 (Operand.tmp 12) (Operand.tmp 13), type := 0, pos := "ref.go:86", after := #[{ on := 0, ground := Ground.data }, { on := 1, ground := Ground.data }, { on := 0, ground := Ground.phase }, { on := 1, ground := Ground.phase }, { on := 2, ground := Ground.phase }, { on := 3, ground := Ground.phase }, { on := 4, ground := Ground.phase }, { on := 5, ground := Ground.phase }, { on := 6, ground := Ground.phase }, { on := 7, ground := Ground.phase }, { on := 8, ground := Ground.phase }, { on := 9, ground := Ground.phase }, { on := 10, ground := Ground.phase }, { on := 11, ground := Ground.phase }, { on := 12, ground := Ground.phase }, { on := 13, ground := Ground.phase }], guard := none }) (v := .pointer (some ⟨g, i, none⟩)) rfl (by kernel_rfl) (by kernel_rfl) (by kernel_rfl) (fun _ _ _ h => h) (Or.inl ⟨by rfl, fun W => ?y18⟩) ?_
        case y18 => go_simp
        try dsimp only [Act.put]
        try simp only [List.setIfInBounds_toArray, List.set_cons_zero, List.set_cons_succ]
        refine wpAny_ready (rs := [15]) (by kernel_rfl) (by simp) ?_
        refine AllReady.cons (o := { dst := none, op := Op.store 66 (Operand.tmp 26) (Operand.tmp 25), type := 0, pos := "ref.go:86", after := #[{ on := 14, ground := Ground.data }, { on := 13, ground := Ground.data }, { on := 10, ground := Ground.chain }, { on := 0, ground := Ground.phase }, { on := 1, ground := Ground.phase }, { on := 2, ground := Ground.phase }, { on := 3, ground := Ground.phase }, { on := 4, ground := Ground.phase }, { on := 5, ground := Ground.phase }, { on := 6, ground := Ground.phase }, { on := 7, ground := Ground.phase }, { on := 8, ground := Ground.phase }, { on := 9, ground := Ground.phase }, { on := 10, ground := Ground.phase }, { on := 11, ground := Ground.phase }, { on := 12, ground := Ground.phase }, { on := 13, ground := Ground.phase }], guard := none }) rfl (fun K hK => ?_) AllReady.nil
        rw [if_pos (by rfl)]
        go_simp
        (try (refine hK _ _ ?_; clear hK K))
        try dsimp only [Act.put]
        try simp only [List.setIfInBounds_toArray, List.set_cons_zero, List.set_cons_succ]
        refine wpAny_done (by kernel_rfl) ?_ _
        try dsimp only [Act.put]
        try simp only [List.setIfInBounds_toArray, List.set_cons_zero, List.set_cons_succ]
        go_wp2
        go_roundw
        case rel => exact ⟨i + 1, HIN.out, by go_num, HP.out.1, HP.out.2⟩
        case measure => simp only [intOf]; omega
    · have hiE : i = n := by omega
      subst hiE
      rw [show hfL l V i = digs i (V / 2) by unfold hfL; rw [List.drop_of_length_le (by rw [HLEN.out]; exact Nat.le_refl _), List.append_nil]] at hown
      have HOW := Lib.hid hown; have HG := Lib.hid hg
      have hdz := dropz_digs i (V / 2) HVN.out
      have HDZ := Lib.hid hdz
      obtain ⟨D, hD⟩ : ∃ d, d = digs i (V / 2) := ⟨_, rfl⟩
      have hDl : D.length = i := by rw [hD, digs_len]
      rw [← hD] at HOW HDZ
      have HDL := Lib.hid hDl
      clear hown hg hge hi hdz hD hDl
      go_wp2
      go_loop [3] (fun s3 => ∃ k : Nat, k ≤ i ∧ s3 = .int .i64 k ∧ dropz (D.take k) = dropz D) (fun s3 => (intOf s3).toNat)
      case atStart => exact ⟨i, Nat.le_refl _, rfl, by rw [List.take_of_length_le (by rw [HDL.out]; exact Nat.le_refl _)]⟩
      case round =>
        obtain ⟨k, hk, rfl, hd⟩ := hrel
        have HD := Lib.hid hd
        clear hd
        rcases Nat.eq_zero_or_pos k with h0 | h0
        · subst h0
          have hz : lim (V / 2) = D.take 0 := by rw [← HDZ.out, ← HD.out]; simp [dropz]
          have HF := Lib.hid (show wr.ownsRow base 66 1 (.slice (some ⟨g, 0, none⟩) 0 cap) 0 (Lc (D.take 0)) from own_cut HOW.out (Nat.zero_le _))
          have HZ := Lib.hid hz
          clear hz
          go_wp2
          go_ret
          unfold HfP
          rw [HZ.out]
          exact ⟨rfl, HF.out, HG.out⟩
        · obtain ⟨j, rfl⟩ : ∃ j, k = j + 1 := ⟨k - 1, by omega⟩
          have hj : j < D.length := by have := HDL.out; omega
          have hcell := own_cell HOW.out j hj
          have hz : ((j : Int) + 1) > 0 := by omega
          have hz1 : ((j + 1 : Nat) : Int) - 1 = (j : Int) := by omega
          have hjN : (j : Int) < (i : Int) := by omega
          by_cases hx : D[j] = 0
          · have e : dropz (D.take j) = dropz D := by rw [← HD.out, dropz_step D j hj hx]
            have E := Lib.hid e
            rw [hx] at hcell
            clear e hx hj
            go_wp2
            go_round
            case rel => exact ⟨j, by omega, by go_num, E.out⟩
            case measure => simp only [intOf]; omega
          · have hz2 : lim (V / 2) = D.take (j + 1) := by rw [← HDZ.out, ← HD.out, dropz_stop D j hj hx]
            have HZ := Lib.hid hz2
            have HTL := Lib.hid (show (D.take (j + 1)).length = j + 1 by rw [List.length_take]; omega)
            have HF := Lib.hid (own_cut HOW.out (show j + 1 ≤ i by omega))
            have hne : (((D[j] : Nat) : Int) == 0) = false := by rw [beq_eq_false_iff_ne]; omega
            generalize D[j] = x at hcell hne
            clear hx hz2 hj
            go_wp2
            go_ret
            unfold HfP
            rw [HZ.out, HTL.out]
            exact ⟨by go_num, HF.out, HG.out⟩
end Go.Proofs.YtbfhilbagojdnaaGreat
namespace Go.Proofs.YtbfhilbagojdnaaGreat
open Go.RowKit Wr Go.Proofs.YtbfhilbagojdnaaGreat.Nm
set_option linter.unusedVariables false
set_option maxRecDepth 100000

/-- The list while another one is taken off it. -/
def tkL (l : List Nat) (V i : Nat) : List Nat := digs i V ++ l.drop i
theorem tk_len (l : List Nat) (V i : Nat) (h : i ≤ l.length) : (tkL l V i).length = l.length := by unfold tkL; rw [List.length_append, digs_len, List.length_drop]; omega
theorem tk_at (l : List Nat) (V i : Nat) (h : i < l.length) : (tkL l V i)[i]'(by rw [tk_len l V i (by omega)]; exact h) = l[i] := by
  unfold tkL; rw [List.getElem_append_right (by rw [digs_len]; exact Nat.le_refl _)]; simp [digs_len]
theorem tk_step (l : List Nat) (V i x : Nat) (h : i < l.length) (hx : x = V / 4294967296 ^ i % 4294967296) : (tkL l V i).set i x = tkL l V (i + 1) := by
  unfold tkL
  rw [set_snoc l _ i _ h (digs_len _ _), digs_snoc, hx]
set_option maxHeartbeats 4000000 in
theorem take_own {base g n cap : Nat} {l b : List Nat} {v2 : Value} {w : World} (hown : w.ownsRow base 66 1 (.slice (some ⟨g, 0, none⟩) n cap) n (Lc l)) (ho : Ok l) (hn : n ≤ 1000000)
    (hy : ∀ W, w.grownBy W (some g) → Sl W v2 b) (hb : Ok b) (hbl : b.length ≤ 1000000) (hle : num b ≤ num l) : Calls Tryz.prog 125 #[.slice (some ⟨g, 0, none⟩) n cap, v2] w (HfP w base g cap (num l - num b)) := by
  have hlen := own_len hown
  have hcap := own_cap hown
  have hyw := hy w (grown_refl _ _)
  obtain ⟨A2, c2, e2, _, _, _⟩ := hyw
  obtain ⟨lb, hlb⟩ : ∃ q, q = b.length := ⟨_, rfl⟩
  rw [← hlb] at e2
  have HLb := Lib.hid (fun W (h : w.grownBy W (some g)) (j : Nat) (hj : j ≤ 1000000) => show Calls Tryz.prog 69 #[.slice A2 lb c2, .int .i64 (j : Int)] W fun e w' => e = .returned (.int .u64 (at0 b j : Nat)) ∧ W = w' by
    obtain ⟨A, c, e, _, _, hr⟩ := hy W h
    rw [e2, ← hlb] at e
    injection e with e3 e4 e5
    subst e3 e5
    rw [hlb]
    exact rlimb_any A2 c2 b j W.heap.size W hr (by omega) (by omega) hb)
  subst e2
  obtain ⟨V, hV⟩ : ∃ v, v = num l - num b := ⟨_, rfl⟩
  have HV := Lib.hid hV; have HO := Lib.hid ho; have HLEN := Lib.hid hlen; have HOb := Lib.hid hb; have HLE := Lib.hid hle
  have hVn : V < 4294967296 ^ n := by have := num_lt l ho; rw [hlen] at this; omega
  have HVN := Lib.hid hVn
  rw [← hV]
  clear hV ho hVn hlen hb hle hlb hbl hy
  go_enter Tryz.func125, Tryz.ntmps125
  go_wp2
  go_loopw [5, 6] (fun s5 s6 wr => ∃ i : Nat, i ≤ n ∧ s6 = .int .i64 ((i : Nat) : Int) ∧ s5 = .int .u64 ((brw (num l) (num b) (4294967296 ^ i) : Nat) : Int) ∧ wr.ownsRow base 66 1 (.slice (some ⟨g, 0, none⟩) n cap) n (Lc (tkL l V i)) ∧ w.grownBy wr (some g)) (fun _ s6 _ => n - (intOf s6).toNat)
  case atStart => exact ⟨0, Nat.zero_le _, rfl, by simp [brw_zero], by simpa [tkL, digs] using hown, grown_refl _ _⟩
  case round =>
    clear hown
    obtain ⟨i, hi, rfl, rfl, hown, hg⟩ := hrel
    rcases Nat.lt_or_ge i n with hlt | hge
    · have hil : i < l.length := by rw [HLEN.out]; exact hlt
      have hcell := own_cell hown i (by rw [tk_len l V i (by omega)]; exact hil)
      rw [tk_at l V i hil] at hcell
      have hfr := hown.frozenAt i
      have CY := Lib.hid (fun n' => HLb.out (wr.drewN n') (grown_drew hg n') i (by omega))
      have hD : 0 < 4294967296 ^ i := Nat.pow_pos (by omega)
      have hdig := brw_digit (num l) (num b) (4294967296 ^ i) hD HLE.out
      have hnx := brw_next (num l) (num b) (4294967296 ^ i) hD
      rw [← at0_num l HO.out, ← at0_num b HOb.out, at0_in l i hil] at hdig hnx
      rw [← Nat.pow_succ] at hnx
      rw [← HV.out] at hdig
      have hcl := brw_le (num l) (num b) (4294967296 ^ i)
      have hz := HO.out.get i hil
      have hyl := at0_lt b HOb.out i
      obtain ⟨x, ex⟩ : ∃ z, z = l[i] := ⟨_, rfl⟩
      obtain ⟨y, ey⟩ : ∃ y, y = at0 b i := ⟨_, rfl⟩
      obtain ⟨k, ek⟩ : ∃ k, k = brw (num l) (num b) (4294967296 ^ i) := ⟨_, rfl⟩
      rw [← ex] at hcell hdig hz hnx
      rw [← ey] at CY hdig hyl hnx
      rw [← ek] at hdig hnx hcl ⊢
      have hs0 : 0 ≤ (x : Int) + 4294967296 := by omega
      have hs5 : (x : Int) + 4294967296 - (y : Int) ≤ 8589934591 := by omega
      have hs6 : (x : Int) + 4294967296 - (y : Int) - (k : Int) ≤ 8589934591 := by omega
      have hs7 : 0 ≤ (x : Int) + 4294967296 - (y : Int) := by omega
      have hs8 : 0 ≤ 1 - ((x : Int) + 4294967296 - (y : Int) - (k : Int)) / 4294967296 := by omega
      have hs9 : 1 - ((x : Int) + 4294967296 - (y : Int) - (k : Int)) / 4294967296 ≤ 1 := by omega
      have hs1 : (x : Int) + 4294967296 ≤ 8589934591 := by omega
      have hs3 : 0 ≤ (x : Int) + 4294967296 - (y : Int) - (k : Int) := by omega
      obtain ⟨r, er⟩ : ∃ r, r = (x + 4294967296 - y - k) % 4294967296 := ⟨_, rfl⟩
      rw [← er] at hdig
      have hput := own_put hown i r
      rw [tk_step l V i r hil hdig] at hput
      have HP := Lib.hid (And.intro hput (grown_put hg i (.int .u32 ((r : Nat) : Int))))
      have HR := Lib.hid (show ((r : Nat) : Int) = ((x : Int) + 4294967296 - (y : Int) - (k : Int)) % 4294967296 by omega)
      have HNX := Lib.hid (show 1 - ((x : Int) + 4294967296 - (y : Int) - (k : Int)) / 4294967296 = ((brw (num l) (num b) (4294967296 ^ (i + 1)) : Nat) : Int) by rw [← hnx]; omega)
      have HIN := Lib.hid (show i + 1 ≤ n by omega)
      have hiI : (i : Int) < (n : Int) := by omega
      clear hput hdig hnx er ex ey ek hown hg hz hyl hcl hil hlt hD
      go_wp2
      go_quiet (with_reducible exact quiet_eq (CY.out _))
      go_wp2
      go_roundw
      case rel =>
        obtain ⟨p1, p2⟩ := HP.out
        refine ⟨i + 1, HIN.out, by go_num, by rw [HNX.out], ?_, ?_⟩
        · rw [← HR.out]; exact p1
        · rw [← HR.out]; exact grown_drew p2 _
      case measure => simp only [intOf]; omega
    · have hiE : i = n := by omega
      subst hiE
      rw [show tkL l V i = digs i V by unfold tkL; rw [List.drop_of_length_le (by rw [HLEN.out]; exact Nat.le_refl _), List.append_nil]] at hown
      have HOW := Lib.hid hown; have HG := Lib.hid hg
      have hdz := dropz_digs i (V) HVN.out
      have HDZ := Lib.hid hdz
      obtain ⟨D, hD⟩ : ∃ d, d = digs i (V) := ⟨_, rfl⟩
      have hDl : D.length = i := by rw [hD, digs_len]
      rw [← hD] at HOW HDZ
      have HDL := Lib.hid hDl
      clear hown hg hge hi hdz hD hDl
      go_wp2
      go_loop [8] (fun s3 => ∃ k : Nat, k ≤ i ∧ s3 = .int .i64 k ∧ dropz (D.take k) = dropz D) (fun s3 => (intOf s3).toNat)
      case atStart => exact ⟨i, Nat.le_refl _, rfl, by rw [List.take_of_length_le (by rw [HDL.out]; exact Nat.le_refl _)]⟩
      case round =>
        obtain ⟨k, hk, rfl, hd⟩ := hrel
        have HD := Lib.hid hd
        clear hd
        rcases Nat.eq_zero_or_pos k with h0 | h0
        · subst h0
          have hz : lim (V) = D.take 0 := by rw [← HDZ.out, ← HD.out]; simp [dropz]
          have HF := Lib.hid (show wr.ownsRow base 66 1 (.slice (some ⟨g, 0, none⟩) 0 cap) 0 (Lc (D.take 0)) from own_cut HOW.out (Nat.zero_le _))
          have HZ := Lib.hid hz
          clear hz
          go_wp2
          go_ret
          unfold HfP
          rw [HZ.out]
          exact ⟨rfl, HF.out, HG.out⟩
        · obtain ⟨j, rfl⟩ : ∃ j, k = j + 1 := ⟨k - 1, by omega⟩
          have hj : j < D.length := by have := HDL.out; omega
          have hcell := own_cell HOW.out j hj
          have hz : ((j : Int) + 1) > 0 := by omega
          have hz1 : ((j + 1 : Nat) : Int) - 1 = (j : Int) := by omega
          have hjN : (j : Int) < (i : Int) := by omega
          by_cases hx : D[j] = 0
          · have e : dropz (D.take j) = dropz D := by rw [← HD.out, dropz_step D j hj hx]
            have E := Lib.hid e
            rw [hx] at hcell
            clear e hx hj
            go_wp2
            go_round
            case rel => exact ⟨j, by omega, by go_num, E.out⟩
            case measure => simp only [intOf]; omega
          · have hz2 : lim (V) = D.take (j + 1) := by rw [← HDZ.out, ← HD.out, dropz_stop D j hj hx]
            have HZ := Lib.hid hz2
            have HTL := Lib.hid (show (D.take (j + 1)).length = j + 1 by rw [List.length_take]; omega)
            have HF := Lib.hid (own_cut HOW.out (show j + 1 ≤ i by omega))
            have hne : (((D[j] : Nat) : Int) == 0) = false := by rw [beq_eq_false_iff_ne]; omega
            generalize D[j] = x at hcell hne
            clear hx hz2 hj
            go_wp2
            go_ret
            unfold HfP
            rw [HZ.out, HTL.out]
            exact ⟨by go_num, HF.out, HG.out⟩
end Go.Proofs.YtbfhilbagojdnaaGreat
namespace Go.Proofs.YtbfhilbagojdnaaGreat
set_option linter.unusedVariables false
namespace Nm

theorem bit_at (X k e : Nat) (he : e < 32) : X / 4294967296 ^ k % 4294967296 / 2 ^ e % 2 = X / 2 ^ (32 * k + e) % 2 := by
  rw [B_two, Nat.pow_add, ← Nat.div_div_eq_div_mul]
  generalize X / 2 ^ (32 * k) = q
  have h : 4294967296 = 2 ^ e * (2 * 2 ^ (31 - e)) := by
    rw [← Nat.pow_succ', ← Nat.pow_add, show e + (31 - e + 1) = 32 by omega]
  rw [h, Nat.mod_mul_right_div_self, Nat.mod_mul_right_mod]
theorem or_add' (a b k : Nat) (h : a < 2 ^ k) : b * 2 ^ k ||| a = b * 2 ^ k + a := by
  rw [Nat.mul_comm, ← Nat.two_pow_add_eq_or_of_lt h]
theorem quo_put (n k e s q0 Q : Nat) (hs : s = 32 * k + e) (he : e < 32) (hk : k < n) (hQ : Q = q0 * 2 ^ (s + 1)) :
    (Q / 4294967296 ^ k % 4294967296 ||| 2 ^ e) = Q / 4294967296 ^ k % 4294967296 + 2 ^ e ∧ Q / 4294967296 ^ k % 4294967296 + 2 ^ e < 4294967296 ∧ digs n (Q + 2 ^ s) = (digs n Q).set k (Q / 4294967296 ^ k % 4294967296 + 2 ^ e) := by
  have h1 : Q / 4294967296 ^ k = q0 * 2 ^ (e + 1) := by
    rw [hQ, hs, B_two, show 32 * k + e + 1 = 32 * k + (e + 1) by omega, Nat.pow_add, Nat.mul_left_comm, Nat.mul_div_cancel_left _ (Nat.two_pow_pos _)]
  have h2 : 4294967296 = 2 ^ (31 - e) * 2 ^ (e + 1) := by rw [← Nat.pow_add, show 31 - e + (e + 1) = 32 by omega]
  have h3 : Q / 4294967296 ^ k % 4294967296 = q0 % 2 ^ (31 - e) * 2 ^ (e + 1) := by rw [h1, h2, Nat.mul_mod_mul_right]
  have h4 : q0 % 2 ^ (31 - e) < 2 ^ (31 - e) := Nat.mod_lt _ (Nat.two_pow_pos _)
  have h5 : 2 ^ e < 2 ^ (e + 1) := Nat.pow_lt_pow_right (by omega) (by omega)
  have h6 : Q / 4294967296 ^ k % 4294967296 + 2 ^ e < 4294967296 := by
    rw [h3]
    have : (q0 % 2 ^ (31 - e) + 1) * 2 ^ (e + 1) ≤ 2 ^ (31 - e) * 2 ^ (e + 1) := Nat.mul_le_mul_right _ h4
    rw [Nat.add_mul, Nat.one_mul, ← h2] at this
    omega
  refine ⟨?_, h6, ?_⟩
  · rw [h3, or_add' _ _ _ h5]
  · have h7 := digs_set n k Q (2 ^ e) hk h6
    rw [← h7, hs, B_two, ← Nat.pow_add]
theorem quoS_step (X Y s : Nat) (hY : 0 < Y) :
    X / 2 ^ s / Y * 2 ^ s = X / 2 ^ (s + 1) / Y * 2 ^ (s + 1) + (if Y ≤ 2 * (X / 2 ^ (s + 1) % Y) + X / 2 ^ s % 2 then 2 ^ s else 0) ∧
    X / 2 ^ s % Y = 2 * (X / 2 ^ (s + 1) % Y) + X / 2 ^ s % 2 - (if Y ≤ 2 * (X / 2 ^ (s + 1) % Y) + X / 2 ^ s % 2 then Y else 0) := by
  have h := bit_step (X / 2 ^ (s + 1)) Y (X / 2 ^ s % 2) hY (Nat.mod_lt _ (by omega))
  have e : 2 * (X / 2 ^ (s + 1)) + X / 2 ^ s % 2 = X / 2 ^ s := by
    rw [Nat.pow_succ, ← Nat.div_div_eq_div_mul]; omega
  rw [e] at h
  refine ⟨?_, h.2⟩
  rw [h.1, Nat.add_mul]
  congr 1
  · rw [Nat.pow_succ]
    generalize X / (2 ^ s * 2) / Y = q
    rw [Nat.mul_comm 2 q, Nat.mul_assoc, Nat.mul_comm 2]
  · split <;> simp
end Nm
end Go.Proofs.YtbfhilbagojdnaaGreat
namespace Go.Proofs.YtbfhilbagojdnaaGreat
open Go.RowKit Wr Go.Proofs.YtbfhilbagojdnaaGreat.Nm
set_option linter.unusedVariables false
set_option maxRecDepth 100000

theorem rplus_lim {v1 v2 : Value} {x y : Nat} {w : World} (h1 : Sl w v1 (lim x)) (h2 : Sl w v2 (lim y)) (hl : (lim x).length ≤ 100000) (hl2 : (lim y).length ≤ 100000) : Calls Tryz.prog 52 #[v1, v2] w (SlP w (x + y)) := by
  have h := rplus_any h1 h2 (lim_ok x) (lim_ok y) hl hl2
  rw [num_lim, num_lim] at h; exact h
theorem rtimes_lim {v1 v2 : Value} {x y : Nat} {w : World} (h1 : Sl w v1 (lim x)) (h2 : Sl w v2 (lim y)) (hl : (lim x).length ≤ 40000) (hl2 : (lim y).length ≤ 40000) : Calls Tryz.prog 53 #[v1, v2] w (SlP w (x * y)) := by
  have h := rtimes_any h1 h2 (lim_ok x) (lim_ok y) hl hl2
  rw [num_lim, num_lim] at h; exact h
def OwS (w : World) (x : Nat) : Ending → World → Prop := OwP w (lim x)
theorem rplus_lio {v1 v2 : Value} {x y : Nat} {w : World} (h1 : Sl w v1 (lim x)) (h2 : Sl w v2 (lim y)) (hl : (lim x).length ≤ 100000) (hl2 : (lim y).length ≤ 100000) : Calls Tryz.prog 52 #[v1, v2] w (OwP w (lim (x + y))) := by
  have h := rplus_own h1 h2 (lim_ok x) (lim_ok y) hl hl2
  rw [num_lim, num_lim] at h; exact h
theorem rminus_lio {v1 v2 : Value} {x y : Nat} {w : World} (h1 : Sl w v1 (lim x)) (h2 : Sl w v2 (lim y)) (hle : y ≤ x) (hl : (lim x).length ≤ 100000) (hl2 : (lim y).length ≤ 100000) : Calls Tryz.prog 57 #[v1, v2] w (OwP w (lim (x - y))) := by
  have h := rminus_own h1 h2 (lim_ok x) (lim_ok y) hl hl2 (by rw [num_lim, num_lim]; exact hle)
  rw [num_lim, num_lim] at h; exact h
theorem own_put_far {w : World} {base g k n : Nat} {v u : Value} {xs : List Value} (h : w.ownsRow base 66 1 v n xs) (hg : g < base) : (w.setCell ⟨g, k, none⟩ u).ownsRow base 66 1 v n xs :=
  ownsRow_setCell_below h hg u
theorem rcompare_lim {v1 v2 : Value} {x y : Nat} {w : World} (h1 : Sl w v1 (lim x)) (h2 : Sl w v2 (lim y)) (hl : (lim x).length ≤ 1000000) (hl2 : (lim y).length ≤ 1000000) : Calls Tryz.prog 98 #[v1, v2] w fun e w' => e = .returned (.int .i64 (ord x y)) ∧ w = w' := by
  have h := rcompare_any h1 h2 (lim_ok x) (lim_ok y) hl hl2
  rw [num_lim, num_lim] at h; exact h
theorem and1_u32 (a : Nat) (ha : a < 4294967296) : bits BinOp.and IntKind.u32 ((a : Nat) : Int) 1 = ((a % 2 : Nat) : Int) := by
  have h := u32_and_nat a 1 ha (by omega)
  rw [Nat.and_one_is_mod] at h; exact h
def QuR (w : World) (X Y n : Nat) (s7 s8 : Value) (wr : World) : Prop := ∃ t : Nat, t ≤ 32 * n ∧ s8 = .int .i64 ((t : Int) - 1) ∧ wr.ownsRow (w.heap.size + 1) 66 1 s7 (lim (X / 2 ^ t % Y)).length (Lc (lim (X / 2 ^ t % Y))) ∧ Blk wr w.heap.size 66 (Lc (digs n (X / 2 ^ t / Y * 2 ^ t))) ∧ Below w.heap.size w wr
set_option maxHeartbeats 4000000 in
theorem quo_any {v1 v2 : Value} {X Y : Nat} {w : World} (h1 : Sl w v1 (lim X)) (h2 : Sl w v2 (lim Y)) (hY : 0 < Y) (hl : (lim X).length ≤ 40000) (hl2 : (lim Y).length ≤ 40000) : Calls Tryz.prog 68 #[v1, v2] w (DvP w X Y) := by
  have S2 := Lib.hid h2
  obtain ⟨A, c, rfl, hc, hn, hr⟩ := h1
  obtain ⟨n, hn0⟩ : ∃ m, m = (lim X).length := ⟨_, rfl⟩
  have hXn : X < 4294967296 ^ n := lim_len.1 (by omega)
  have HN := Lib.hid hn0; have HXN := Lib.hid hXn; have HR := Lib.hid hr; have HL2 := Lib.hid hl2
  rw [← hn0] at hl ⊢
  have hmk := mk22 n (by omega)
  have hq : X / 2 ^ (32 * n) = 0 := Nat.div_eq_of_lt (by rw [← B_two]; exact hXn)
  have hst : QuR w X Y n (.slice none 0 0) (.int .i64 (32 * (n : Int) - 1)) (w.alloc (.cells (Lc (List.replicate n 0)).toArray 66)) :=
    ⟨32 * n, Nat.le_refl _, by simp, by rw [hq, Nat.zero_mod, lim_zero]; exact World.ownsRow_nil _ _ _ _, by rw [hq, Nat.zero_div, Nat.zero_mul, digs_zero]; exact Blk.new w 66 (Lc (List.replicate n 0)), (Below.refl _ _).alloc (Nat.le_refl _) _⟩
  have HST := Lib.hid hst
  have HY := Lib.hid hY
  clear hn0 hXn hr hn hc h2 hl2 hq hst hY
  go_enter Tryz.func68, Tryz.ntmps68
  go_wp2
  clear hmk
  go_loopw [7, 8] (fun s7 s8 wr => QuR w X Y n s7 s8 wr) (fun _ s8 _ => (intOf s8 + 1).toNat)
  case atStart => exact HST.out
  case round =>
    clear HST
    obtain ⟨t, ht, rfl, hs, hblk, hbel⟩ := hrel
    rcases Nat.eq_zero_or_pos t with h0 | h0
    · subst h0
      rw [Nat.pow_zero, Nat.div_one, Nat.mul_one] at hblk
      rw [Nat.pow_zero, Nat.div_one] at hs
      have hqn : X / Y < 4294967296 ^ n := Nat.lt_of_le_of_lt (Nat.div_le_self _ _) HXN.out
      have hdz := dropz_digs n (X / Y) hqn
      have hlen := digs_len n (X / Y)
      have hSL : Sl wr (.slice (some ⟨w.heap.size, 0, none⟩) n n) (digs n (X / Y)) := ⟨_, n, by rw [hlen], by rw [hlen]; exact Nat.le_refl _, (fun e => by cases e), (Rd.of_blk0 hblk).more hblk.lt⟩
      have HTR := Lib.hid (trim_any hSL (by rw [hlen]; omega))
      rw [hdz] at HTR
      have HS := Lib.hid (own_sl hs); have HBE := Lib.hid hbel
      clear hqn hdz hlen hSL hs hbel hblk
      go_wp2_with fail
      refine HTR.out.mono ?_
      rintro e w2 ⟨v, rfl, hs1, hb⟩
      have HS1 := Lib.hid hs1; have HS2 := Lib.hid (HS.out.below hb); have HB2 := Lib.hid (below_step HBE.out hb)
      clear hs1 hb
      go_wp2_with fail
      go_ret2
      exact ⟨_, _, rfl, HS1.out, HS2.out, HB2.out⟩
    · obtain ⟨s, rfl⟩ : ∃ s, t = s + 1 := ⟨t - 1, by omega⟩
      rw [show ((s + 1 : Nat) : Int) - 1 = (s : Int) by omega]
      obtain ⟨k, hk⟩ : ∃ k, k = s / 32 := ⟨_, rfl⟩
      obtain ⟨e, he⟩ : ∃ e, e = s % 32 := ⟨_, rfl⟩
      have hkI : (s : Int) / 32 = (k : Int) := by omega
      have heI : (s : Int) % 32 = (e : Int) := by omega
      have he32 : e < 32 := by omega
      have hse : s = 32 * k + e := by omega
      have hkn : k < n := by omega
      have hrA : Rd wr w.heap.size A (Lc (lim X)) := HR.out.below hbel
      obtain ⟨g, o, rfl, hg, hcell⟩ := limb_cell hrA k (by rw [← HN.out]; exact hkn)
      have hbit := bit_at X k e he32
      rw [← hse] at hbit
      have hxl := at0_num (lim X) (lim_ok X) k
      rw [num_lim, at0_in _ k (by rw [← HN.out]; exact hkn)] at hxl
      rw [← hxl] at hbit
      have hz := (lim_ok X).get k (by rw [← HN.out]; exact hkn)
      obtain ⟨z, ez⟩ : ∃ z, z = (lim X)[k]'(by rw [← HN.out]; exact hkn) := ⟨_, rfl⟩
      rw [← ez] at hbit hcell hz
      obtain ⟨b, hb⟩ : ∃ b, b = X / 2 ^ s % 2 := ⟨_, rfl⟩
      rw [← hb] at hbit
      obtain ⟨zq, hzq⟩ : ∃ q, q = z / 2 ^ e := ⟨_, rfl⟩
      rw [← hzq] at hbit
      have hzql : zq < 4294967296 := by rw [hzq]; exact Nat.lt_of_le_of_lt (Nat.div_le_self _ _) hz
      have hSHR := (show (z : Int) / 2 ^ e = (zq : Int) by rw [hzq]; simp)
      have hAND := and1_u32 zq hzql
      rw [hbit] at hAND
      obtain ⟨hq1, hq2⟩ := quoS_step X Y s HY.out
      have hQ := quo_put n k e s (X / 2 ^ (s + 1) / Y) _ hse he32 hkn rfl
      obtain ⟨r, hr⟩ : ∃ r, r = X / 2 ^ (s + 1) % Y := ⟨_, rfl⟩
      rw [← hb, ← hr] at hq1 hq2
      rw [← hr] at hs
      have hrY : r < Y := by rw [hr]; exact Nat.mod_lt _ HY.out
      obtain ⟨Q, hQQ⟩ : ∃ q, q = X / 2 ^ (s + 1) / Y * 2 ^ (s + 1) := ⟨_, rfl⟩
      rw [← hQQ] at hq1 hQ hblk
      obtain ⟨hor, hzl, hset⟩ := hQ
      have hc2 : wr.cell? ⟨w.heap.size, k, none⟩ = some (.int .u32 ((Q / 4294967296 ^ k % 4294967296 : Nat) : Int)) := by rw [hblk.cell, Lc_get _ _ (by rw [digs_len]; exact hkn), digs_get n Q k hkn]
      obtain ⟨zo, hzo⟩ : ∃ q, q = Q / 4294967296 ^ k % 4294967296 := ⟨_, rfl⟩
      rw [← hzo] at hor hzl hset hc2
      have hb2 : b < 2 := by rw [hb]; exact Nat.mod_lt _ (by omega)
      have hrl : (lim r).length ≤ 40000 := Nat.le_trans (lim_mono (Nat.le_of_lt hrY)) HL2.out
      have hbl : (lim b).length ≤ 1 := lim_len.2 (by omega)
      have hr2 : (lim (r + r)).length ≤ 40001 := lim_add hrl hrl
      have hr3 : (lim (r + r + b)).length ≤ 40002 := lim_add hr2 (Nat.le_trans hbl (by omega))
      have hYl := HL2.out
      have HP1 := Lib.hid (rplus_lim (own_sl hs) (own_sl hs) (by omega) (by omega))
      have HWh := Lib.hid (fun W => whole_any b W (by omega))
      have HP2 := Lib.hid (fun W (v : Value) (hv : Sl W v (lim (r + r))) (v' : Value) (hv' : Sl W v' (lim b)) => rplus_lio hv hv' (by omega) (by omega))
      have HCm := Lib.hid (fun W (v : Value) (hv : Sl W v (lim (r + r + b))) (hv' : Sl W v2 (lim Y)) => rcompare_lim hv hv' (by omega) (by omega))
      have HMn := Lib.hid (fun (hle : Y ≤ r + r + b) W (v : Value) (hv : Sl W v (lim (r + r + b))) (hv' : Sl W v2 (lim Y)) => rminus_lio hv hv' hle (by omega) (by omega))
      rw [Nat.two_mul] at hq1 hq2
      have HQ1 := Lib.hid hq1; have HQ2 := Lib.hid hq2; have HSET := Lib.hid hset; have HZL := Lib.hid hzl; have HOR := Lib.hid hor
      have HBK := Lib.hid hblk; have HBE := Lib.hid hbel
      have HTS := Lib.hid (show s ≤ 32 * n by omega)
      have HZO := Lib.hid hzo
      obtain ⟨pe, hpe⟩ : ∃ p, p = 2 ^ e := ⟨_, rfl⟩
      have hpl : pe ≤ 2147483648 := by
        rw [hpe]
        have e31 : (2 : Nat) ^ 31 = 2147483648 := by decide
        rw [← e31]; exact Nat.pow_le_pow_right (by omega) (by omega)
      have HSHL := Lib.hid (show IntKind.u32.wrap ((2 : Int) ^ e) = (pe : Int) by rw [hpe]; exact shl_one e (by omega))
      rw [← hpe] at HOR HZL HSET
      have HOI := Lib.hid (show bits BinOp.or IntKind.u32 (zo : Int) (pe : Int) = ((zo + pe : Nat) : Int) by
        have hzz := HZL.out
        rw [u32_or_nat _ _ (by omega) (by omega), HOR.out])
      clear hbit hxl hb hzq hQQ hr hk he ez hse hrl hbl hr2 hr3 hYl hq1 hq2 hset hzl hor hblk hbel hs hrY hpe hzo hpl hc2
      go_wp2_with fail
      refine HP1.out.mono ?_
      rintro e1 w1 ⟨u1, rfl, hs1, hb1⟩
      have S1 := Lib.hid hs1; have B1 := Lib.hid (below_step HBE.out hb1); have K1 := Lib.hid (HBK.out.below hb1 HBK.out.lt)
      clear hs1 hb1 hcell hSHR hAND HP1 HBE HBK
      go_wp2_with fail
      refine (HWh.out _).mono ?_
      rintro e1 w2 ⟨u2, rfl, hs2, hb2⟩
      have S1b := Lib.hid (S1.out.below hb2); have S2b := Lib.hid hs2; have B2 := Lib.hid (below_step B1.out hb2); have K2 := Lib.hid (K1.out.below hb2 K1.out.lt)
      clear hs2 hb2 HWh S1 B1 K1
      go_wp2_with fail
      refine (HP2.out _ _ S1b.out _ S2b.out).mono ?_
      rintro e1 w3 ⟨u3, rfl, hs3, hb3⟩
      have O3 := Lib.hid (own_mono hs3 (Nat.le_trans (Nat.succ_le_of_lt K2.out.lt) (Nat.le_refl _))); have S3 := Lib.hid (own_sl hs3); have B3 := Lib.hid (below_step B2.out hb3); have K3 := Lib.hid (K2.out.below hb3 K2.out.lt)
      have S2w := Lib.hid (S2.out.below (below_step B2.out hb3))
      clear hs3 hb3 HP2 S1b S2b B2 K2
      obtain ⟨o1, ho1⟩ : ∃ o, o = ord (r + r + b) Y := ⟨_, rfl⟩
      have HC1 := Lib.hid (HCm.out _ _ S3.out S2w.out)
      rw [← ho1] at HC1
      by_cases hc : Y ≤ r + r + b
      · have ho : 0 ≤ o1 := by rw [ho1]; unfold ord; rw [if_neg (by omega)]; split <;> omega
        have HM := Lib.hid (HMn.out hc _ _ S3.out S2w.out)
        have e1 := HQ1.out
        have e2 := HQ2.out
        rw [if_pos hc] at e1 e2
        have HE1 := Lib.hid e1; have HE2 := Lib.hid e2
        clear ho1 hc e1 e2 HCm HMn HQ1 HQ2
        go_wp2_with (go_at_call 98; (with_reducible refine HC1.out.mono ?_); rintro e w' ⟨rfl, rfl⟩)
        refine HM.out.mono ?_
        rintro e1 w4 ⟨u4, rfl, hs4, hb4⟩
        have O4 := Lib.hid (own_mono hs4 (Nat.succ_le_of_lt K3.out.lt)); have B4 := Lib.hid (below_step B3.out hb4)
        have hk4 := K3.out.below hb4 K3.out.lt
        have hc4 : w4.cell? ⟨w.heap.size, k, none⟩ = some (.int .u32 ((zo : Nat) : Int)) := by
          rw [hk4.cell, Lc_get _ _ (by rw [digs_len]; exact hkn), digs_get n Q k hkn, HZO.out]
        have hf4 := hk4.frozen k
        have K4 := Lib.hid hk4
        have hSHL := HSHL.out
        have hOI := HOI.out
        clear hs4 hb4 hk4 HM HC1 S3 B3 K3
        have hput := K4.out.put k (.int .u32 ((zo + pe : Nat) : Int))
        rw [Lc_set, ← HSET.out] at hput
        have HPUT := Lib.hid hput
        have HBP := Lib.hid (B4.out.setCell (p := ⟨w.heap.size, k, none⟩) (Nat.le_refl _) (.int .u32 ((zo + pe : Nat) : Int)))
        have HSL := Lib.hid (own_put_far (k := k) (u := .int .u32 ((zo + pe : Nat) : Int)) O4.out (Nat.lt_succ_self _))
        clear hput
        go_wp2_with fail
        go_roundw
        case rel => exact ⟨s, HTS.out, rfl, by rw [HE2.out]; exact HSL.out, by rw [HE1.out]; exact HPUT.out, HBP.out⟩
        case measure => simp only [intOf]; omega
      · have ho : ¬ (0 ≤ o1) := by rw [ho1]; unfold ord; rw [if_pos (by omega)]; omega
        have e1 := HQ1.out
        have e2 := HQ2.out
        rw [if_neg hc, Nat.add_zero] at e1
        rw [if_neg hc, Nat.sub_zero] at e2
        have HE1 := Lib.hid e1; have HE2 := Lib.hid e2
        clear ho1 hc e1 e2 HCm HMn HQ1 HQ2
        go_wp2_with (go_at_call 98; (with_reducible refine HC1.out.mono ?_); rintro e w' ⟨rfl, rfl⟩)
        go_roundw
        case rel => exact ⟨s, HTS.out, rfl, by rw [HE2.out]; exact O3.out, by rw [HE1.out]; exact K3.out, B3.out⟩
        case measure => simp only [intOf]; omega
end Go.Proofs.YtbfhilbagojdnaaGreat
