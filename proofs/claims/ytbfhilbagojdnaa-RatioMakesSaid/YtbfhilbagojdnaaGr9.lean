/-
  Texts of the proof, joined: Ir, Cu, Rf, Rc, Rp, Rw, Rm, Rq, Rh, Rk, Rz, Rg.
  No condition: lemmas.
-/
import Derived.Deep.CutBlock
import Derived.Deep.LoopGhost
import Derived.Laws.AppendOwn
import Derived.Shelf.Strings.Cut
import Derived.Test.YtbfhilbagojdnaaGr8
namespace Go.Proofs.Ytbfhilbagojdnaa
open Go.RowKit Wr Go.Proofs.Ytbfhilbagojdnaa.Nm
set_option linter.unusedVariables false
set_option maxRecDepth 100000

theorem Bv_get (l : List UInt8) (j : Nat) (h : j < l.length) : (Bv l)[j]? = some (.int .u8 (l[j].toNat : Int)) := by
  unfold Bv; rw [List.getElem?_map, List.getElem?_eq_getElem h]; rfl
/-- A string's bytes, in a block of their own. -/
theorem bytes_of (w : World) (s : ByteArray) : ∃ C W, s.size ≤ C ∧ (convert 9 100 (.string s)).run Try.prog w = .ok (.slice (some ⟨w.heap.size, 0, none⟩) s.size C) W ∧ Rd W W.heap.size (some ⟨w.heap.size, 0, none⟩) (Bv s.data.toList) ∧ Below w.heap.size w W := by
  refine ⟨grownCap w s.size 0 5, _, grownCap_ge w s.size 0 5, run_bytes_of_string (P := Try.prog) w 9 100 5 s Try.underlying9 Try.underlying100 Try.underlying5, fun _ => ⟨w.heap.size, 0, rfl, by simp, fun j u hu => by
    rw [Nat.zero_add]
    refine (cell_of_row _ w.heap.size j _ _ _ (heap_alloc_new w.drew _)).trans ?_
    have hj := (List.getElem?_eq_some_iff.1 hu).1
    rw [Bv_len] at hj
    rw [Bv_get _ _ hj] at hu
    rw [bytesRow_at s _ j (by simpa using hj), ← hu]
    rfl⟩, (Below.refl w.heap.size w).drew.alloc (Nat.le_refl _) (.cells (bytesRow s (grownCap w s.size 0 5)) 5 ((bytesRow s (grownCap w s.size 0 5)).size, (bytesRow s (grownCap w s.size 0 5)).size + 1))⟩
theorem byte_cell {w : World} {B : Nat} {A : Option Addr} {l : List UInt8} (h : Rd w B A (Bv l)) (j : Nat) (hj : j < l.length) : ∃ g o, A = some ⟨g, o, none⟩ ∧ g < B ∧ w.cell? ⟨g, o + j, none⟩ = some (.int .u8 (l[j].toNat : Int)) := by
  obtain ⟨g, o, e, hb, hc⟩ := h (by intro e; have := congrArg List.length e; rw [Bv_len] at this; simp at this; rw [this] at hj; simp at hj)
  exact ⟨g, o, e, hb, hc j _ (Bv_get l j hj)⟩
theorem byte_ne (b : UInt8) : (((b.toNat : Nat) : Int) != 48) = decide (b ≠ 48) := by
  rw [Bool.eq_iff_iff, bne_iff_ne, decide_eq_true_iff]
  refine not_congr ⟨fun h => UInt8.toNat_inj.1 (by show b.toNat = 48; omega), fun h => by subst h; rfl⟩
/-- What isRow says of a string's bytes. -/
def digB (b : UInt8) : Bool := decide (48 ≤ b.toNat ∧ b.toNat ≤ 57)
def rowOk (l : List UInt8) : Bool := l.all digB && (decide (l = [48]) || (decide (l ≠ []) && decide (l[0]? ≠ some 48)))
set_option maxHeartbeats 2000000 in
theorem isRow_any (l : List UInt8) (w : World) (hl : l.length ≤ 1000000) : Calls Try.prog 83 #[.string ⟨l.toArray⟩] w fun e w' => e = .returned (.bool (rowOk l)) ∧ Below w.heap.size w w' := by
  obtain ⟨C, W, hC, hcv, hrd, hbl⟩ := bytes_of w ⟨l.toArray⟩
  have hsz : (⟨l.toArray⟩ : ByteArray).size = l.length := rfl
  rw [hsz] at hC hcv
  have hrd' : Rd W W.heap.size (some ⟨w.heap.size, 0, none⟩) (Bv l) := hrd
  have HB := Lib.hid hbl
  obtain ⟨n, hn⟩ : ∃ n, n = l.length := ⟨_, rfl⟩
  rw [← hn] at hcv hC
  have HN := Lib.hid hn
  have HR := Lib.hid hrd'
  have hnI : (n : Int) ≤ 1000000 := by omega
  clear hrd hrd' hbl hn hl hsz
  go_enter Try.func83, Try.ntmps83
  go_wp2
  go_loopw [8] (fun s wr => ∃ k : Nat, k ≤ n ∧ s = .int .i64 (k : Int) ∧ (l.take k).all digB = true ∧ wr = W) (fun s _ => n - (intOf s).toNat)
  case atStart => exact ⟨0, Nat.zero_le _, rfl, rfl, rfl⟩
  case round =>
    clear hcv
    obtain ⟨k, hk, rfl, hall, rfl⟩ := hrel
    have HA := Lib.hid hall
    clear hall
    rcases Nat.lt_or_ge k n with hlt | hge
    · have hkl : k < l.length := by have := HN.out; omega
      obtain ⟨g, o, e1, hgB, hcell⟩ := byte_cell HR.out k hkl
      cases e1
      rw [Nat.zero_add] at hcell
      have hkI : (k : Int) < (n : Int) := by omega
      have hb256 := l[k].toNat_lt
      by_cases hd : digB l[k] = true
      · have hd2 := of_decide_eq_true hd
        have HT := Lib.hid (show (l.take (k + 1)).all digB = true by
          rw [List.take_succ_eq_append_getElem hkl, List.all_append, HA.out, Bool.true_and]
          simp [hd])
        generalize l[k].toNat = b at *
        have hb1 : ¬ ((b : Int) < 48) := by omega
        have hb2 : ¬ (57 < (b : Int)) := by omega
        clear hd hd2
        go_wp2
        go_roundw
        case rel => exact ⟨k + 1, by omega, by simp, HT.out, by trivial⟩
        case measure => simp only [intOf]; omega
      · have hd2 : ¬ (48 ≤ l[k].toNat ∧ l[k].toNat ≤ 57) := fun h => hd (decide_eq_true h)
        have HF := Lib.hid (show rowOk l = false by
          have : l.all digB = false := by
            rw [← Bool.not_eq_true]
            intro h
            exact hd (List.all_eq_true.1 h _ (List.getElem_mem hkl))
          unfold rowOk; rw [this, Bool.false_and])
        generalize l[k].toNat = b at *
        clear hd
        by_cases hb1 : b < 48
        · have hb1I : (b : Int) < 48 := by omega
          clear hd2
          go_wp2
          go_ret
          exact ⟨by rw [HF.out]; rfl, HB.out⟩
        · have hb1I : ¬ ((b : Int) < 48) := by omega
          have hb2I : 57 < (b : Int) := by omega
          clear hd2
          go_wp2
          go_ret
          exact ⟨by rw [HF.out]; rfl, HB.out⟩
    · have hkn : k = n := by omega
      subst hkn
      have hA := HA.out
      rw [HN.out, List.take_length] at hA
      have HF := Lib.hid (show rowOk l = (decide (l = [48]) || (decide (l ≠ []) && decide (l[0]? ≠ some 48))) by unfold rowOk; rw [hA, Bool.true_and])
      have HB' := HB
      clear hA HA HR hk
      cases l with
      | nil =>
        have HF' := Lib.hid (show rowOk [] = false by rw [HF.out]; decide)
        clear HF
        go_wp2
        go_ret
        exact ⟨by rw [HF'.out]; rfl, HB'.out⟩
      | cons b l' =>
        have hpos : 0 < (b :: l').length := by simp
        by_cases h1 : b :: l' = [48]
        · have HF' := Lib.hid (show rowOk (b :: l') = true by rw [HF.out, decide_eq_true h1, Bool.true_or])
          have hbq : (b :: l' == [48]) = true := by rw [h1]; rfl
          clear HF h1
          go_wp2
          go_ret
          exact ⟨by rw [HF'.out]; rfl, HB'.out⟩
        · have hbq : (b :: l' == [48]) = false := by rw [beq_eq_false_iff_ne]; exact h1
          have HF' := Lib.hid (show rowOk (b :: l') = decide (b ≠ 48) by rw [HF.out, decide_eq_false h1]; simp)
          clear HF h1
          go_wp2
          go_ret
          exact ⟨by rw [HF'.out]; exact congrArg (fun z => Ending.returned (.bool z)) (byte_ne b), HB'.out⟩
end Go.Proofs.Ytbfhilbagojdnaa
namespace Go.Proofs.Ytbfhilbagojdnaa
open Go.RowKit Wr Go.Proofs.Ytbfhilbagojdnaa.Nm
set_option linter.unusedVariables false
set_option maxRecDepth 100000
def renC : Go.Shelf.Ren := ⟨fun | 145 => 82 | 217 => 107 | 219 => 105 | 220 => 100 | 224 => 109 | 225 => 108 | 266 => 111 | 267 => 110 | 314 => 112 | n => n, fun | 46 => 73 | 51 => 60 | 59 => 81 | 146 => 101 | n => n, fun | 1 => 2 | n => n⟩
theorem laysCut : Lays.n145 Try.prog renC := by
  constructor
  all_goals (intros; kernel_rfl)
/-- The library's variable MaxLen is there. -/
def MaxL (w : World) : Prop := ∃ m, w.cell? ⟨2, 0, none⟩ = some (.int .i64 m)
theorem MaxL.below {w w' : World} (h : MaxL w) (h2 : 2 < w.heap.size) (hb : Below w.heap.size w w') : MaxL w' := by
  obtain ⟨m, hm⟩ := h
  exact ⟨m, (hb.cell (p := ⟨2, 0, none⟩) h2).trans hm⟩
theorem cut_any (l : List UInt8) (w : World) (h : MaxL w) (hl : l.length < 4294967281) : Calls Try.prog 82 #[.string ⟨l.toArray⟩, .string ⟨#[47]⟩] w fun e w' =>
    e = .returned (.tuple #[.string ⟨(Lib.cut l [47]).1.toArray⟩, .string ⟨(Lib.cut l [47]).2.1.toArray⟩, .bool (Lib.cut l [47]).2.2]) ∧ ∃ n, w' = w.drewN n := by
  obtain ⟨m, hm⟩ := h
  exact Any.strings_Cut laysCut ⟨l.toArray⟩ ⟨#[47]⟩ m w hl hm
end Go.Proofs.Ytbfhilbagojdnaa
namespace Go.Proofs.Ytbfhilbagojdnaa
open Go.RowKit Wr Go.Proofs.Ytbfhilbagojdnaa.Nm
set_option linter.unusedVariables false
set_option maxRecDepth 100000

theorem rlimb_any (A : Option Addr) (c : Nat) (l : List Nat) (i B : Nat) (w : World) (hr : Rd w B A (Lc l)) (hl : l.length ≤ 1099511627776) (hi : i ≤ 1099511627776) (ho : Ok l) :
    Calls Try.prog 86 #[.slice A l.length c, .int .i64 (i : Int)] w fun e w' => e = .returned (.int .u64 (at0 l i : Nat)) ∧ w = w' := by
  by_cases hlt : i < l.length
  · obtain ⟨g, o, rfl, hg, hc⟩ := limb_cell hr i hlt
    have hx := at0_lt l ho i
    rw [at0_in l i hlt] at hx ⊢
    generalize l[i] = x at hc hx
    generalize l.length = n at hl hlt
    have i0 : (i : Int) < (n : Int) := by omega
    clear hr
    go_enter Try.func86, Try.ntmps86
    go_wp2
    go_ret
    exact ⟨rfl, rfl⟩
  · rw [at0_out l i (by omega)]
    generalize l.length = n at hl hlt
    have i0 : ¬ (i : Int) < (n : Int) := by omega
    clear hr
    go_enter Try.func86, Try.ntmps86
    go_wp2
    go_ret
    exact ⟨rfl, rfl⟩
theorem rd_take {w : World} {B : Nat} {A : Option Addr} {l : List Nat} (h : Rd w B A (Lc l)) (k : Nat) : Rd w B A (Lc (l.take k)) := fun hne => by
  have hl : Lc l ≠ [] := by
    intro e
    apply hne
    have h1 := congrArg List.length e
    rw [Lc_len] at h1
    have h2 : l = [] := List.length_eq_zero_iff.1 h1
    rw [h2]; simp [Lc]
  obtain ⟨g, o, e, hb, hc⟩ := h hl
  refine ⟨g, o, e, hb, fun j u hu => hc j u ?_⟩
  have hj := (List.getElem?_eq_some_iff.1 hu).1
  rw [Lc_len, List.length_take] at hj
  rw [Lc_get _ j (by rw [List.length_take]; exact hj), List.getElem_take] at hu
  rw [Lc_get _ j (by omega)]; exact hu
def OwP (w : World) (l : List Nat) (e : Ending) (w' : World) : Prop := ∃ v, e = .returned v ∧ w'.ownsRow w.heap.size 60 1 v l.length (Lc l) ∧ Below w.heap.size w w'
theorem own_sl {w : World} {base : Nat} {v : Value} {l : List Nat} (h : w.ownsRow base 60 1 v l.length (Lc l)) : Sl w v l := own_form h
theorem own_mono {w : World} {base base' : Nat} {e size n : Nat} {v : Value} {xs : List Value} (h : w.ownsRow base e size v n xs) (hb : base' ≤ base) : w.ownsRow base' e size v n xs :=
  ⟨h.1, h.2.imp id fun ⟨g, cap, cur, e1, hb2, r⟩ => ⟨g, cap, cur, e1, Nat.le_trans hb hb2, r⟩⟩
theorem OwP.sl {w : World} {l : List Nat} {e : Ending} {w' : World} (h : OwP w l e w') : CpP w l e w' := by
  obtain ⟨v, e, ho, hb⟩ := h
  exact ⟨v, e, own_sl ho, hb⟩
set_option maxHeartbeats 2000000 in
theorem trim_own {v : Value} {l : List Nat} {w : World} (h : Sl w v l) (hl : l.length ≤ 1000000) : Calls Try.prog 36 #[v] w (OwP w (dropz l)) := by
  obtain ⟨A, c, rfl, hc, hn, hr⟩ := h
  have hbs := bs0 w
  have hw1 : (w.alloc (.cells #[] 60)).ownsRow w.heap.size 60 1 (.slice (some ⟨w.heap.size, 0, none⟩) 0 0) 0 [] := World.ownsRow_lit w #[] 0 (Nat.le_refl _) (by unfold maxLen; omega) rfl
  have hr1 : Rd (w.alloc (.cells #[] 60)) w.heap.size A (Lc l) := hr.below ((Below.refl _ _).alloc (Nat.le_refl _) _)
  have hb1 : Below w.heap.size w (w.alloc (.cells #[] 60)) := (Below.refl _ _).alloc (Nat.le_refl _) _
  obtain ⟨N, hN⟩ : ∃ N, N = l.length := ⟨_, rfl⟩
  rw [← hN] at hl hc ⊢
  have HN := Lib.hid hN
  have HW1 := Lib.hid hw1; have HB1 := Lib.hid hb1; have HRT := Lib.hid (rd_take hr1); have HNIL := Lib.hid hn
  clear hN hw1 hr1 hb1 hn
  go_enter Try.func36, Try.ntmps36
  go_wp2
  go_loop [3] (fun s3 => ∃ k : Nat, k ≤ N ∧ s3 = .int .i64 k ∧ dropz (l.take k) = dropz l) (fun s3 => (intOf s3).toNat)
  case atStart => exact ⟨N, Nat.le_refl _, rfl, by rw [List.take_of_length_le (by rw [HN.out]; exact Nat.le_refl _)]⟩
  case round =>
    obtain ⟨k, hk, rfl, hd⟩ := hrel
    have HD := Lib.hid hd
    clear hd
    rcases Nat.eq_zero_or_pos k with h0 | h0
    · subst h0
      have HTK := Lib.hid (show l.take 0 = dropz l by rw [← HD.out]; simp [dropz])
      have HLEN := Lib.hid (show (l.take 0).length = 0 by simp)
      have hcI : (0 : Int) ≤ (c : Int) := by omega
      clear hr
      go_wp2_with (at_builtin; (refine wpList_append_lim rfl (.tmp 18) (.tmp 21) rfl w.heap.size _ 0 [] rfl HW1.out A 0 c w.heap.size (l.take (0)) rfl HNIL.out HLEN.out (HRT.out (0)) (by omega) (by simp) ?_))
      intro v' w' ho hg
      have hb := HB1.out.grown hg (by simp) (by intro e1 e2; simp [Value.ownBlock] at e2; try omega)
      have HX := Lib.hid (show w'.ownsRow w.heap.size 60 1 v' (l.take (0)).length (Lc (l.take (0))) by rw [HLEN.out]; simpa using ho)
      have HB := Lib.hid hb
      clear ho hg hb
      go_wp2
      go_ret
      exact ⟨v', rfl, by rw [← HTK.out]; exact HX.out, HB.out⟩
    · obtain ⟨j, rfl⟩ : ∃ j, k = j + 1 := ⟨k - 1, by omega⟩
      have hj : j < l.length := by have := HN.out; omega
      obtain ⟨g, o, e0, hg, hcell⟩ := limb_cell hr j hj
      have hz : ((j : Int) + 1) > 0 := by omega
      have hz1 : ((j + 1 : Nat) : Int) - 1 = (j : Int) := by omega
      have hjN : (j : Int) < (N : Int) := by omega
      by_cases hx : l[j] = 0
      · have e : dropz (l.take j) = dropz l := by rw [← HD.out, dropz_step l j hj hx]
        have E := Lib.hid e
        rw [hx] at hcell
        subst e0
        clear e hx hr hbs
        go_wp2
        go_round
        case rel => exact ⟨j, by omega, by go_num, E.out⟩
        case measure => simp only [intOf]; omega
      · have HTK := Lib.hid (show l.take (j + 1) = dropz l by rw [← HD.out, dropz_stop l j hj hx])
        have HLEN := Lib.hid (show (l.take (j + 1)).length = j + 1 by rw [List.length_take]; omega)
        have hne : (((l[j] : Nat) : Int) == 0) = false := by rw [beq_eq_false_iff_ne]; omega
        generalize l[j] = x at hcell hne
        have hcI : (j : Int) + 1 ≤ (c : Int) := by omega
        obtain ⟨a0, ha0⟩ : ∃ a, A = a := ⟨_, rfl⟩
        subst e0
        clear hx hr ha0 a0
        go_wp2_with (at_builtin; (refine wpList_append_lim rfl (.tmp 18) (.tmp 21) rfl w.heap.size _ 0 [] rfl HW1.out (some ⟨g, o, none⟩) (j + 1) c w.heap.size (l.take (j + 1)) rfl HNIL.out HLEN.out (HRT.out (j + 1)) (by omega) (by simp) ?_))
        intro v' w' ho hg
        have hb := HB1.out.grown hg (by simp) (by intro e1 e2; simp [Value.ownBlock] at e2; try omega)
        have HX := Lib.hid (show w'.ownsRow w.heap.size 60 1 v' (l.take (j + 1)).length (Lc (l.take (j + 1))) by rw [HLEN.out]; simpa using ho)
        have HB := Lib.hid hb
        clear ho hg hb
        go_wp2
        go_ret
        exact ⟨v', rfl, by rw [← HTK.out]; exact HX.out, HB.out⟩
theorem trim_any {v : Value} {l : List Nat} {w : World} (h : Sl w v l) (hl : l.length ≤ 1000000) : Calls Try.prog 36 #[v] w (CpP w (dropz l)) :=
  (trim_own h hl).mono fun _ _ ⟨v, e, ho, hb⟩ => ⟨v, e, own_sl ho, hb⟩
end Go.Proofs.Ytbfhilbagojdnaa
namespace Go.Proofs.Ytbfhilbagojdnaa
open Go.RowKit Wr Go.Proofs.Ytbfhilbagojdnaa.Nm
set_option linter.unusedVariables false
set_option maxRecDepth 100000

def pad (M : Nat) (l : List Nat) : List Nat := l ++ List.replicate (M - l.length) 0
theorem pad_len {M : Nat} {l : List Nat} (h : l.length ≤ M) : (pad M l).length = M := by simp [pad]; omega
theorem pad_num (M : Nat) (l : List Nat) : num (pad M l) = num l := by unfold pad; rw [num_append, num_rep]; simp
theorem pad_at {M : Nat} {l : List Nat} (i : Nat) (h : i < (pad M l).length) : (pad M l)[i] = at0 l i := by
  unfold pad at h ⊢
  by_cases hl : i < l.length
  · rw [List.getElem_append_left hl, at0_in l i hl]
  · rw [List.getElem_append_right (by omega), List.getElem_replicate, at0_out l i (by omega)]
theorem pad_ok (M : Nat) {l : List Nat} (h : Ok l) : Ok (pad M l) := by
  intro x hx
  rcases List.mem_append.1 hx with h1 | h1
  · exact h x h1
  · rw [List.mem_replicate] at h1; omega
set_option maxHeartbeats 2000000 in
theorem rcompare_any {v1 v2 : Value} {a b : List Nat} {w : World} (h1 : Sl w v1 a) (h2 : Sl w v2 b) (ha : Ok a) (hb : Ok b) (hl : a.length ≤ 1000000) (hl2 : b.length ≤ 1000000) : Calls Try.prog 76 #[v1, v2] w fun e w' => e = .returned (.int .i64 (ord (num a) (num b))) ∧ w = w' := by
  obtain ⟨A, c, rfl, hc, hn, hr⟩ := h1
  obtain ⟨A2, c2, rfl, hc2, hn2, hr2⟩ := h2
  obtain ⟨M, hM⟩ : ∃ m, m = max a.length b.length := ⟨_, rfl⟩
  have hMI : max (a.length : Int) (b.length : Int) = (M : Int) := by omega
  obtain ⟨R, hR⟩ : ∃ r, r = ord (num a) (num b) := ⟨_, rfl⟩
  have HR := Lib.hid hR
  rw [← hR]
  have HLa := Lib.hid (fun (j : Nat) (hj : j ≤ 1000000) => rlimb_any A c a j w.heap.size w hr (by omega) (by omega) ha)
  have HLb := Lib.hid (fun (j : Nat) (hj : j ≤ 1000000) => rlimb_any A2 c2 b j w.heap.size w hr2 (by omega) (by omega) hb)
  have HM := Lib.hid (show M ≤ 1000000 by omega)
  have HPa := Lib.hid (pad_len (show a.length ≤ M by omega)); have HPb := Lib.hid (pad_len (show b.length ≤ M by omega))
  have HOa := Lib.hid ha; have HOb := Lib.hid hb
  have HMI := hMI
  have hMb : (M : Int) ≤ 1000000 := by omega
  generalize a.length = la at HLa hMI HMI ⊢
  generalize b.length = lb at HLb hMI HMI ⊢
  clear hr hr2 hn hn2 hc hc2 hM hR ha hb hl hl2 hMI
  go_enter Try.func76, Try.ntmps76
  go_wp2
  go_loopw [5] (fun s5 wr => ∃ k : Nat, k ≤ M ∧ s5 = .int .i64 ((k : Int) - 1) ∧ (pad M a).drop k = (pad M b).drop k ∧ w = wr) (fun s5 _ => (intOf s5 + 1).toNat)
  case atStart =>
    refine ⟨M, Nat.le_refl _, ?_, ?_, rfl⟩
    · rfl
    · rw [List.drop_of_length_le (by rw [HPa.out]; exact Nat.le_refl _), List.drop_of_length_le (by rw [HPb.out]; exact Nat.le_refl _)]
  case round =>
    obtain ⟨k, hk, rfl, ht, rfl⟩ := hrel
    have HT := Lib.hid ht
    clear ht HMI
    rcases Nat.eq_zero_or_pos k with h0 | h0
    · subst h0
      have hz : R = 0 := by
        have e : pad M a = pad M b := by have := HT.out; simpa using this
        rw [HR.out, ← pad_num M a, ← pad_num M b, e, (ord_zero _ _).2 rfl]
      subst hz
      go_wp2
      go_ret
      exact ⟨rfl, rfl⟩
    · obtain ⟨j, rfl⟩ : ∃ j, k = j + 1 := ⟨k - 1, by omega⟩
      rw [show ((j + 1 : Nat) : Int) - 1 = (j : Int) by omega]
      have hja : j < (pad M a).length := by rw [HPa.out]; omega
      have hjb : j < (pad M b).length := by rw [HPb.out]; omega
      have hjI : (j : Int) ≤ 1000000 := by omega
      have CA := Lib.hid (HLa.out j (by have := HM.out; omega)); have CB := Lib.hid (HLb.out j (by have := HM.out; omega))
      have hax := at0_lt a HOa.out j
      have hbx := at0_lt b HOb.out j
      have pa := pad_at (M := M) (l := a) j hja
      have pb := pad_at (M := M) (l := b) j hjb
      have hlen : (pad M a).length = (pad M b).length := by rw [HPa.out, HPb.out]
      have hlt : at0 a j < at0 b j → R = -1 := fun h => by
        have := ord_at (pad M a) (pad M b) (pad_ok M HOa.out) (pad_ok M HOb.out) hlen j hja HT.out (by rw [pa, pb]; exact h)
        rw [pad_num, pad_num] at this
        rw [HR.out]; unfold ord; rw [if_pos this]
      have hgt : at0 b j < at0 a j → R = 1 := fun h => by
        have := ord_at (pad M b) (pad M a) (pad_ok M HOb.out) (pad_ok M HOa.out) hlen.symm j hjb HT.out.symm (by rw [pa, pb]; exact h)
        rw [pad_num, pad_num] at this
        rw [HR.out]; unfold ord; rw [if_neg (by omega), if_neg (by omega)]
      have heq : at0 a j = at0 b j → (pad M a).drop j = (pad M b).drop j := fun h => drop_eq_step j hja hjb HT.out (by rw [pa, pb]; exact h)
      have HLT := Lib.hid hlt; have HGT := Lib.hid hgt; have HEQ := Lib.hid heq
      generalize at0 a j = x at CA hax HLT HGT HEQ
      generalize at0 b j = y at CB hbx HLT HGT HEQ
      clear hlt hgt heq pa pb hlen hja hjb HLa HLb
      rcases Nat.lt_trichotomy x y with h | h | h
      · have hd : x < y := h
        have hR := HLT.out h
        subst hR
        clear h
        go_wp2_with (go_at_call 86; first | ((with_reducible refine CA.out.mono ?_); rintro e w' ⟨rfl, rfl⟩) | ((with_reducible refine CB.out.mono ?_); rintro e w' ⟨rfl, rfl⟩))
        go_ret
        exact ⟨rfl, rfl⟩
      · have hE := HEQ.out h
        have HE := Lib.hid hE
        subst h
        clear hE
        go_wp2_with (go_at_call 86; first | ((with_reducible refine CA.out.mono ?_); rintro e w' ⟨rfl, rfl⟩) | ((with_reducible refine CB.out.mono ?_); rintro e w' ⟨rfl, rfl⟩))
        go_roundw
        case rel => exact ⟨j, by omega, rfl, HE.out, by trivial⟩
        case measure => simp only [intOf]; omega
      · have hd1 : ¬ (x < y) := by omega
        have hd2 : y < x := h
        have hR := HGT.out h
        subst hR
        clear h
        go_wp2_with (go_at_call 86; first | ((with_reducible refine CA.out.mono ?_); rintro e w' ⟨rfl, rfl⟩) | ((with_reducible refine CB.out.mono ?_); rintro e w' ⟨rfl, rfl⟩))
        go_ret
        exact ⟨rfl, rfl⟩
end Go.Proofs.Ytbfhilbagojdnaa
namespace Go.Proofs.Ytbfhilbagojdnaa
open Go.RowKit Wr Go.Proofs.Ytbfhilbagojdnaa.Nm
set_option linter.unusedVariables false
set_option maxRecDepth 100000

/-- The carry of an addition below limb i. -/
def car (A B D : Nat) : Nat := (A % D + B % D) / D
theorem car_le (A B D : Nat) (h : 0 < D) : car A B D ≤ 1 := by
  unfold car
  have := Nat.mod_lt A h; have := Nat.mod_lt B h
  have : (A % D + B % D) / D < 2 := Nat.div_lt_of_lt_mul (by omega)
  omega
theorem car_div (A B D : Nat) (h : 0 < D) : (A + B) / D = A / D + B / D + car A B D := by
  unfold car
  have e1 := Nat.div_add_mod A D
  have e2 := Nat.div_add_mod B D
  have e : A + B = A % D + B % D + D * (A / D + B / D) := by rw [Nat.mul_add]; omega
  conv => lhs; rw [e]
  rw [Nat.add_mul_div_left _ _ h]; omega
theorem car_digit (A B D : Nat) (h : 0 < D) : (A / D % 4294967296 + B / D % 4294967296 + car A B D) % 4294967296 = (A + B) / D % 4294967296 := by
  rw [car_div A B D h]; omega
theorem car_next (A B D : Nat) (h : 0 < D) : (A / D % 4294967296 + B / D % 4294967296 + car A B D) / 4294967296 = car A B (D * 4294967296) := by
  have h2 : (A % (D * 4294967296) + B % (D * 4294967296)) / D = A / D % 4294967296 + B / D % 4294967296 + car A B D := by
    rw [Nat.mod_mul, Nat.mod_mul]
    have e : A % D + D * (A / D % 4294967296) + (B % D + D * (B / D % 4294967296)) = A % D + B % D + D * (A / D % 4294967296 + B / D % 4294967296) := by rw [Nat.mul_add]; omega
    rw [e, Nat.add_mul_div_left _ _ h]
    unfold car; omega
  rw [← h2, Nat.div_div_eq_div_mul]
  rfl
theorem bsOne (z : Int) (W : World) : (Instr.buildSlice 22 1 #[(0, .int .u32 z)]).run Try.prog W = .ok (.slice (some ⟨W.heap.size, 0, none⟩) 1 1) (W.alloc (.cells #[.int .u32 z] 60)) := by kernel_rfl
theorem rd_one (z : Nat) (W : World) : Rd (W.alloc (.cells #[.int .u32 ((z : Nat) : Int)] 60)) (W.heap.size + 1) (some ⟨W.heap.size, 0, none⟩) (Lc [z]) := (Rd.of_blk0 (Blk.new W 60 (Lc [z]))).more (by simp)
def PsR (w : World) (S A B N : Nat) (s5 s6 s7 : Value) (wr : World) : Prop := ∃ i : Nat, i ≤ N ∧ s7 = .int .i64 ((i : Nat) : Int) ∧ s6 = .int .u64 ((car A B (4294967296 ^ i) : Nat) : Int) ∧ wr.ownsRow w.heap.size 60 1 s5 i (Lc (digs i S)) ∧ Below w.heap.size w wr
set_option maxHeartbeats 4000000 in
theorem rplus_own {v1 v2 : Value} {a b : List Nat} {w : World} (h1 : Sl w v1 a) (h2 : Sl w v2 b) (ha : Ok a) (hb : Ok b) (hl : a.length ≤ 100000) (hl2 : b.length ≤ 100000) : Calls Try.prog 78 #[v1, v2] w (OwP w (lim (num a + num b))) := by
  obtain ⟨A, c, rfl, hc, hn, hr⟩ := h1
  obtain ⟨A2, c2, rfl, hc2, hn2, hr2⟩ := h2
  obtain ⟨M, hM⟩ : ∃ m, m = max a.length b.length := ⟨_, rfl⟩
  have hMI : max (a.length : Int) (b.length : Int) = (M : Int) := by omega
  have hMb : (M : Int) ≤ 100000 := by omega
  have HLa := Lib.hid (fun W (h : Below w.heap.size w W) (j : Nat) (hj : j ≤ 1000000) => rlimb_any A c a j W.heap.size W ((hr.below h).more h.size) (by omega) (by omega) ha)
  have HLb := Lib.hid (fun W (h : Below w.heap.size w W) (j : Nat) (hj : j ≤ 1000000) => rlimb_any A2 c2 b j W.heap.size W ((hr2.below h).more h.size) (by omega) (by omega) hb)
  have HSM := Lib.hid (show num a + num b < 4294967296 ^ (M + 1) by
    have e1 := Nat.lt_of_lt_of_le (num_lt a ha) (Nat.pow_le_pow_right (show 0 < 4294967296 by omega) (show a.length ≤ M by omega))
    have e2 := Nat.lt_of_lt_of_le (num_lt b hb) (Nat.pow_le_pow_right (show 0 < 4294967296 by omega) (show b.length ≤ M by omega))
    rw [Nat.pow_succ]
    generalize 4294967296 ^ M = p at *
    omega)
  have HOa := Lib.hid ha; have HOb := Lib.hid hb
  generalize a.length = la at HLa hMI ⊢
  generalize b.length = lb at HLb hMI ⊢
  clear hr hr2 hn hn2 hc hc2 hM ha hb hl hl2
  go_enter Try.func78, Try.ntmps78
  go_wp2
  go_loopw [5, 6, 7] (fun s5 s6 s7 wr => PsR w (num a + num b) (num a) (num b) (M + 1) s5 s6 s7 wr) (fun _ _ s7 _ => M + 1 - (intOf s7).toNat)
  case atStart => exact ⟨0, Nat.zero_le _, rfl, by simp [car, Nat.mod_one], World.ownsRow_nil _ _ _ _, Below.refl _ _⟩
  case round =>
    obtain ⟨i, hi, rfl, rfl, hown, hbel⟩ := hrel
    rcases Nat.lt_or_ge i (M + 1) with hlt | hge
    · have hx := at0_lt a HOa.out i
      have hy := at0_lt b HOb.out i
      have hD : 0 < 4294967296 ^ i := Nat.pow_pos (by omega)
      have hdig := car_digit (num a) (num b) (4294967296 ^ i) hD
      have hnx := car_next (num a) (num b) (4294967296 ^ i) hD
      rw [← at0_num a HOa.out, ← at0_num b HOb.out] at hdig hnx
      rw [← Nat.pow_succ] at hnx
      have hcl := car_le (num a) (num b) (4294967296 ^ i) hD
      have hds := digs_snoc i (num a + num b)
      rw [← hdig] at hds
      have CA := Lib.hid (HLa.out wr hbel i (by omega)); have CB := Lib.hid (HLb.out wr hbel i (by omega))
      obtain ⟨x, ex⟩ : ∃ x, x = at0 a i := ⟨_, rfl⟩
      obtain ⟨y, ey⟩ : ∃ y, y = at0 b i := ⟨_, rfl⟩
      obtain ⟨k, ek⟩ : ∃ k, k = car (num a) (num b) (4294967296 ^ i) := ⟨_, rfl⟩
      rw [← ex] at CA hx hnx hds
      rw [← ey] at CB hy hnx hds
      rw [← ek] at hnx hds hcl ⊢
      have HNX := Lib.hid hnx; have HDS := Lib.hid hds; have HOW := Lib.hid hown; have HBE := Lib.hid hbel
      have hiI : (i : Int) < (M : Int) + 1 := by omega
      have hsum : (x : Int) + (y : Int) + (k : Int) ≤ 8589934591 := by omega
      have hsum2 : (x : Int) + (y : Int) ≤ 8589934590 := by omega
      clear hnx hds hown hbel hdig hD ex ey ek hx hy hcl hlt
      have hbs := bsOne (((x : Int) + (y : Int) + (k : Int)) % 4294967296) wr
      have ez : (((x + y + k) % 4294967296 : Nat) : Int) = ((x : Int) + (y : Int) + (k : Int)) % 4294967296 := by omega
      have hrd := rd_one ((x + y + k) % 4294967296) wr
      rw [ez] at hrd
      have HRD := Lib.hid hrd
      have HOA := Lib.hid (HOW.out.alloc (.cells #[.int .u32 (((x : Int) + (y : Int) + (k : Int)) % 4294967296)] 60))
      have HBA := Lib.hid (HBE.out.alloc HBE.out.size (.cells #[.int .u32 (((x : Int) + (y : Int) + (k : Int)) % 4294967296)] 60))
      have HNX2 := Lib.hid (show ((x : Int) + (y : Int) + (k : Int)) / 4294967296 = ((car (num a) (num b) (4294967296 ^ (i + 1)) : Nat) : Int) by rw [← HNX.out]; omega)
      have HII := Lib.hid (show i + 1 ≤ 1073741824 ∧ i + 1 ≤ M + 1 by omega)
      clear hrd ez HOW HNX
      go_wp2_with (first | (go_at_call 86; first | ((with_reducible refine CA.out.mono ?_); rintro e w' ⟨rfl, rfl⟩) | ((with_reducible refine CB.out.mono ?_); rintro e w' ⟨rfl, rfl⟩)) | (at_builtin; (refine wpList_append_lim rfl (.tmp 28) (.tmp 31) rfl w.heap.size _ i (Lc (digs i (num a + num b))) rfl HOA.out (some ⟨wr.heap.size, 0, none⟩) 1 1 (wr.heap.size + 1) [(x + y + k) % 4294967296] rfl (fun e => by cases e) rfl HRD.out HII.out.1 HBA.out.size ?_)))
      intro v' w' ho hg
      have hb := HBA.out.grown hg HBA.out.size (fun q e => (HOA.out.lt q e).1)
      rw [← Lc_append, ← HDS.out] at ho
      have HO := Lib.hid ho; have HB := Lib.hid hb
      clear ho hg hb hbs
      go_wp2
      go_roundw
      case rel => exact ⟨i + 1, HII.out.2, by simp, by rw [HNX2.out], HO.out, HB.out⟩
      case measure => simp only [intOf]; omega
    · have hiM : i = M + 1 := by omega
      subst hiM
      obtain ⟨A', c', e, h1, h2, h3⟩ := own_form hown
      have HSL := Lib.hid (show Sl wr u5 (digs (M + 1) (num a + num b)) from ⟨A', c', by rw [e, digs_len], by rw [digs_len]; exact h1, h2, h3⟩)
      have HTR := Lib.hid (trim_own HSL.out (by rw [digs_len]; omega))
      rw [dropz_digs _ _ HSM.out] at HTR
      have HBE := Lib.hid hbel
      clear hown hbel e h1 h2 h3 hge hi
      go_wp2_with fail
      refine HTR.out.mono ?_
      rintro e w2 ⟨v, rfl, hs, hb⟩
      have HS := Lib.hid (own_mono hs HBE.out.size); have HB2 := Lib.hid (below_step HBE.out hb)
      clear hs hb
      go_wp2_with fail
      go_ret
      exact ⟨v, rfl, HS.out, HB2.out⟩
theorem rplus_any {v1 v2 : Value} {a b : List Nat} {w : World} (h1 : Sl w v1 a) (h2 : Sl w v2 b) (ha : Ok a) (hb : Ok b) (hl : a.length ≤ 100000) (hl2 : b.length ≤ 100000) : Calls Try.prog 78 #[v1, v2] w (CpP w (lim (num a + num b))) :=
  (rplus_own h1 h2 ha hb hl hl2).mono fun _ _ h => h.sl
end Go.Proofs.Ytbfhilbagojdnaa
namespace Go.Proofs.Ytbfhilbagojdnaa
open Go.RowKit Wr Go.Proofs.Ytbfhilbagojdnaa.Nm
set_option linter.unusedVariables false
set_option maxRecDepth 100000

set_option maxHeartbeats 1000000 in
theorem whole_any (x : Nat) (w : World) (hx : x < 9223372036854775808) : Calls Try.prog 42 #[.int .i64 ((x : Nat) : Int)] w (CpP w (lim x)) := by
  obtain ⟨a, ha⟩ : ∃ a, a = x % 4294967296 := ⟨_, rfl⟩
  obtain ⟨b, hb⟩ : ∃ b, b = x / 4294967296 := ⟨_, rfl⟩
  have ea : ((x : Int) % 4294967296) = (a : Int) := by omega
  have eb : ((x : Int) / 4294967296) = (b : Int) := by omega
  have eb2 : ((b : Int) % 4294967296) = (b : Int) := by omega
  have hbB : b < 4294967296 := by omega
  have hbs := bs2 (a : Int) (b : Int) w
  have hD : dropz [a, b] = lim x := by
    have e : digs 2 x = [a, b] := by
      simp only [digs]; rw [← ha, ← hb, Nat.mod_eq_of_lt hbB]
    rw [← e]; exact dropz_digs 2 x (by omega)
  have hSl : Sl (w.alloc (.cells #[.int .u32 (a : Int), .int .u32 (b : Int)] 60)) (.slice (some ⟨w.heap.size, 0, none⟩) 2 2) [a, b] :=
    ⟨_, 2, rfl, Nat.le_refl _, (fun e => by cases e), (Rd.of_blk0 (Blk.new w 60 (Lc [a, b]))).more (Blk.new w 60 (Lc [a, b])).lt⟩
  have HT := Lib.hid (trim_any hSl (by simp))
  rw [hD] at HT
  have HB := Lib.hid ((Below.refl w.heap.size w).alloc (Nat.le_refl _) (.cells #[.int .u32 (a : Int), .int .u32 (b : Int)] 60))
  clear hSl hD ha hb hbB
  go_enter Try.func42, Try.ntmps42
  go_wp2_with fail
  refine HT.out.mono ?_
  rintro e w2 ⟨v, rfl, hs, hb⟩
  have HS := Lib.hid hs; have HB2 := Lib.hid (below_step HB.out hb)
  clear hs hb
  go_wp2_with fail
  go_ret
  exact ⟨v, rfl, HS.out, HB2.out⟩
theorem odd_any {v : Value} {l : List Nat} {w : World} (h : Sl w v l) (ho : Ok l) (hl : l.length ≤ 1000000) : Calls Try.prog 74 #[v] w fun e w' => e = .returned (.bool (decide (num l % 2 = 1))) ∧ w = w' := by
  obtain ⟨A, c, rfl, hc, hn, hr⟩ := h
  have HL := Lib.hid (rlimb_any A c l 0 w.heap.size w hr (by omega) (by omega) ho)
  rw [show ((0 : Nat) : Int) = 0 from rfl] at HL
  have h0 := at0_num l ho 0
  rw [Nat.pow_zero, Nat.div_one] at h0
  have hlt := at0_lt l ho 0
  obtain ⟨x, hx⟩ : ∃ x, x = at0 l 0 := ⟨_, rfl⟩
  rw [← hx] at HL h0 hlt
  have e : decide (num l % 2 = 1) = decide (x % 2 = 1) := by
    have : num l % 2 = x % 2 := by omega
    rw [this]
  rw [e]
  rcases (show x % 2 = 0 ∨ x % 2 = 1 by omega) with h2 | h2
  · have hq : (x : Int) % 2 = 0 := by omega
    rw [h2]
    clear e h0 hr hn hc hx h2
    go_enter Try.func74, Try.ntmps74
    go_wp2_with (go_at_call 86; (with_reducible refine HL.out.mono ?_); rintro e w' ⟨rfl, rfl⟩)
    go_ret
    exact ⟨rfl, rfl⟩
  · have hq : (x : Int) % 2 = 1 := by omega
    rw [h2]
    clear e h0 hr hn hc hx h2
    go_enter Try.func74, Try.ntmps74
    go_wp2_with (go_at_call 86; (with_reducible refine HL.out.mono ?_); rintro e w' ⟨rfl, rfl⟩)
    go_ret
    exact ⟨rfl, rfl⟩
end Go.Proofs.Ytbfhilbagojdnaa
namespace Go.Proofs.Ytbfhilbagojdnaa
open Go.RowKit Wr Go.Proofs.Ytbfhilbagojdnaa.Nm
set_option linter.unusedVariables false
set_option maxRecDepth 100000

def MnR (w : World) (S A B N : Nat) (s5 s6 s7 : Value) (wr : World) : Prop := ∃ i : Nat, i ≤ N ∧ s7 = .int .i64 ((i : Nat) : Int) ∧ s6 = .int .u64 ((brw A B (4294967296 ^ i) : Nat) : Int) ∧ wr.ownsRow w.heap.size 60 1 s5 i (Lc (digs i S)) ∧ Below w.heap.size w wr
set_option maxHeartbeats 4000000 in
theorem rminus_own {v1 v2 : Value} {a b : List Nat} {w : World} (h1 : Sl w v1 a) (h2 : Sl w v2 b) (ha : Ok a) (hb : Ok b) (hl : a.length ≤ 100000) (hl2 : b.length ≤ 100000) (hle : num b ≤ num a) : Calls Try.prog 99 #[v1, v2] w (OwP w (lim (num a - num b))) := by
  obtain ⟨A, c, rfl, hc, hn, hr⟩ := h1
  obtain ⟨A2, c2, rfl, hc2, hn2, hr2⟩ := h2
  have HLa := Lib.hid (fun W (h : Below w.heap.size w W) (j : Nat) (hj : j ≤ 1000000) => rlimb_any A c a j W.heap.size W ((hr.below h).more h.size) (by omega) (by omega) ha)
  have HLb := Lib.hid (fun W (h : Below w.heap.size w W) (j : Nat) (hj : j ≤ 1000000) => rlimb_any A2 c2 b j W.heap.size W ((hr2.below h).more h.size) (by omega) (by omega) hb)
  obtain ⟨M, hM⟩ : ∃ m, m = a.length := ⟨_, rfl⟩
  have hMb : (M : Int) ≤ 100000 := by omega
  have HSM := Lib.hid (show num a - num b < 4294967296 ^ M by
    have e1 := num_lt a ha
    rw [← hM] at e1
    omega)
  have HOa := Lib.hid ha; have HOb := Lib.hid hb; have HLE := Lib.hid hle
  rw [← hM] at HLa ⊢
  generalize b.length = lb at HLb ⊢
  clear hr hr2 hn hn2 hc hc2 hM ha hb hl hl2 hle
  go_enter Try.func99, Try.ntmps99
  go_wp2
  go_loopw [5, 6, 7] (fun s5 s6 s7 wr => MnR w (num a - num b) (num a) (num b) M s5 s6 s7 wr) (fun _ _ s7 _ => M - (intOf s7).toNat)
  case atStart => exact ⟨0, Nat.zero_le _, rfl, by simp [brw_zero], World.ownsRow_nil _ _ _ _, Below.refl _ _⟩
  case round =>
    obtain ⟨i, hi, rfl, rfl, hown, hbel⟩ := hrel
    rcases Nat.lt_or_ge i M with hlt | hge
    · have hx := at0_lt a HOa.out i
      have hy := at0_lt b HOb.out i
      have hD : 0 < 4294967296 ^ i := Nat.pow_pos (by omega)
      have hdig := brw_digit (num a) (num b) (4294967296 ^ i) hD HLE.out
      have hnx := brw_next (num a) (num b) (4294967296 ^ i) hD
      rw [← at0_num a HOa.out, ← at0_num b HOb.out] at hdig hnx
      rw [← Nat.pow_succ] at hnx
      have hcl := brw_le (num a) (num b) (4294967296 ^ i)
      have hds := digs_snoc i (num a - num b)
      rw [← hdig] at hds
      have CA := Lib.hid (HLa.out wr hbel i (by omega)); have CB := Lib.hid (HLb.out wr hbel i (by omega))
      obtain ⟨x, ex⟩ : ∃ x, x = at0 a i := ⟨_, rfl⟩
      obtain ⟨y, ey⟩ : ∃ y, y = at0 b i := ⟨_, rfl⟩
      obtain ⟨k, ek⟩ : ∃ k, k = brw (num a) (num b) (4294967296 ^ i) := ⟨_, rfl⟩
      rw [← ex] at CA hx hnx hds
      rw [← ey] at CB hy hnx hds
      rw [← ek] at hnx hds hcl ⊢
      have HNX := Lib.hid hnx; have HDS := Lib.hid hds; have HOW := Lib.hid hown; have HBE := Lib.hid hbel
      have hiI : (i : Int) < (M : Int) := by omega
      have hs0 : 0 ≤ (x : Int) + 4294967296 := by omega
      have hs5 : (x : Int) + 4294967296 - (y : Int) ≤ 8589934591 := by omega
      have hs6 : (x : Int) + 4294967296 - (y : Int) - (k : Int) ≤ 8589934591 := by omega
      have hs7 : 0 ≤ (x : Int) + 4294967296 - (y : Int) := by omega
      have hs8 : 0 ≤ 1 - ((x : Int) + 4294967296 - (y : Int) - (k : Int)) / 4294967296 := by omega
      have hs9 : 1 - ((x : Int) + 4294967296 - (y : Int) - (k : Int)) / 4294967296 ≤ 1 := by omega
      have hs1 : (x : Int) + 4294967296 ≤ 8589934591 := by omega
      have hs2 : 1 ≤ (x : Int) + 4294967296 - (y : Int) := by omega
      have hs3 : 0 ≤ (x : Int) + 4294967296 - (y : Int) - (k : Int) := by omega
      have hs4 : ((x : Int) + 4294967296 - (y : Int) - (k : Int)) / 4294967296 ≤ 1 := by omega
      have ez : (((x + 4294967296 - y - k) % 4294967296 : Nat) : Int) = ((x : Int) + 4294967296 - (y : Int) - (k : Int)) % 4294967296 := by omega
      have hnI : 1 - ((x : Int) + 4294967296 - (y : Int) - (k : Int)) / 4294967296 = ((1 - (x + 4294967296 - y - k) / 4294967296 : Nat) : Int) := by omega
      clear hnx hds hown hbel hdig hD ex ey ek hlt
      have hbs := bsOne (((x : Int) + 4294967296 - (y : Int) - (k : Int)) % 4294967296) wr
      have hrd := rd_one ((x + 4294967296 - y - k) % 4294967296) wr
      rw [ez] at hrd
      have HRD := Lib.hid hrd
      have HOA := Lib.hid (HOW.out.alloc (.cells #[.int .u32 (((x : Int) + 4294967296 - (y : Int) - (k : Int)) % 4294967296)] 60))
      have HBA := Lib.hid (HBE.out.alloc HBE.out.size (.cells #[.int .u32 (((x : Int) + 4294967296 - (y : Int) - (k : Int)) % 4294967296)] 60))
      have HNX2 := Lib.hid (show 1 - ((x : Int) + 4294967296 - (y : Int) - (k : Int)) / 4294967296 = ((brw (num a) (num b) (4294967296 ^ (i + 1)) : Nat) : Int) by rw [hnI, HNX.out])
      have HII := Lib.hid (show i + 1 ≤ 1073741824 ∧ i + 1 ≤ M by omega)
      clear hrd ez HOW HNX hnI hx hy hcl
      go_wp2_with (first | (go_at_call 86; first | ((with_reducible refine CA.out.mono ?_); rintro e w' ⟨rfl, rfl⟩) | ((with_reducible refine CB.out.mono ?_); rintro e w' ⟨rfl, rfl⟩)) | (at_builtin; (refine wpList_append_lim rfl (.tmp 25) (.tmp 28) rfl w.heap.size _ i (Lc (digs i (num a - num b))) rfl HOA.out (some ⟨wr.heap.size, 0, none⟩) 1 1 (wr.heap.size + 1) [(x + 4294967296 - y - k) % 4294967296] rfl (fun e => by cases e) rfl HRD.out HII.out.1 HBA.out.size ?_)))
      intro v' w' ho hg
      have hb := HBA.out.grown hg HBA.out.size (fun q e => (HOA.out.lt q e).1)
      rw [← Lc_append, ← HDS.out] at ho
      have HO := Lib.hid ho; have HB := Lib.hid hb
      clear ho hg hb hbs
      go_wp2
      go_roundw
      case rel => exact ⟨i + 1, HII.out.2, by simp, by rw [HNX2.out], HO.out, HB.out⟩
      case measure => simp only [intOf]; omega
    · have hiM : i = M := by omega
      subst hiM
      obtain ⟨A', c', e, h1, h2, h3⟩ := own_form hown
      have HSL := Lib.hid (show Sl wr u5 (digs i (num a - num b)) from ⟨A', c', by rw [e, digs_len], by rw [digs_len]; exact h1, h2, h3⟩)
      have HTR := Lib.hid (trim_own HSL.out (by rw [digs_len]; omega))
      rw [dropz_digs _ _ HSM.out] at HTR
      have HBE := Lib.hid hbel
      clear hown hbel e h1 h2 h3 hge hi
      go_wp2_with fail
      refine HTR.out.mono ?_
      rintro e w2 ⟨v, rfl, hs, hb⟩
      have HS := Lib.hid (own_mono hs HBE.out.size); have HB2 := Lib.hid (below_step HBE.out hb)
      clear hs hb
      go_wp2_with fail
      go_ret
      exact ⟨v, rfl, HS.out, HB2.out⟩
theorem rminus_any {v1 v2 : Value} {a b : List Nat} {w : World} (h1 : Sl w v1 a) (h2 : Sl w v2 b) (ha : Ok a) (hb : Ok b) (hl : a.length ≤ 100000) (hl2 : b.length ≤ 100000) (hle : num b ≤ num a) : Calls Try.prog 99 #[v1, v2] w (CpP w (lim (num a - num b))) :=
  (rminus_own h1 h2 ha hb hl hl2 hle).mono fun _ _ h => h.sl
end Go.Proofs.Ytbfhilbagojdnaa
namespace Go.Proofs.Ytbfhilbagojdnaa
open Go.RowKit Wr Go.Proofs.Ytbfhilbagojdnaa.Nm
set_option linter.unusedVariables false
set_option maxRecDepth 100000

/-- The own row of a product that is being made. -/
def TmI (w : World) (N i Y X : Nat) (l : List Nat) (wr : World) : Prop := l.length = N ∧ Ok l ∧ num l = X * Y ∧ Blk wr w.heap.size 60 (Lc l) ∧ Below w.heap.size w wr
def TmJ (w : World) (N i k P Y x : Nat) (s9 s10 : Value) (wr : World) : Prop := ∃ (l : List Nat) (carry : Nat), s10 = .int .i64 ((k : Nat) : Int) ∧ s9 = .int .u64 ((carry : Nat) : Int) ∧ carry < 4294967296 ∧ l.length = N ∧ Ok l ∧
  num l + 4294967296 ^ (i + k) * carry = P + 4294967296 ^ i * (x * (Y % 4294967296 ^ k)) ∧ Blk wr w.heap.size 60 (Lc l) ∧ Below w.heap.size w wr
theorem num_take_at (a : List Nat) (i : Nat) (h : i < a.length) : num (a.take (i + 1)) = num (a.take i) + 4294967296 ^ i * at0 a i := by rw [at0_in a i h]; exact num_take_succ a i h
theorem num_take_lt (a : List Nat) (ha : Ok a) (i : Nat) : num (a.take i) < 4294967296 ^ i := Nat.lt_of_lt_of_le (num_lt _ (ha.take i)) (Nat.pow_le_pow_right (by omega) (by rw [List.length_take]; omega))
set_option maxHeartbeats 4000000 in
theorem rtimes_own {v1 v2 : Value} {a b : List Nat} {w : World} (h1 : Sl w v1 a) (h2 : Sl w v2 b) (ha : Ok a) (hb : Ok b) (hl : a.length ≤ 40000) (hl2 : b.length ≤ 40000) : Calls Try.prog 53 #[v1, v2] w (OwP w (lim (num a * num b))) := by
  obtain ⟨A, c, rfl, hc, hn, hr⟩ := h1
  obtain ⟨A2, c2, rfl, hc2, hn2, hr2⟩ := h2
  have HLa := Lib.hid (fun W (h : Below w.heap.size w W) (j : Nat) (hj : j ≤ 1000000) => rlimb_any A c a j W.heap.size W ((hr.below h).more h.size) (by omega) (by omega) ha)
  have HLb := Lib.hid (fun W (h : Below w.heap.size w W) (j : Nat) (hj : j ≤ 1000000) => rlimb_any A2 c2 b j W.heap.size W ((hr2.below h).more h.size) (by omega) (by omega) hb)
  obtain ⟨la, hla⟩ : ∃ m, m = a.length := ⟨_, rfl⟩
  obtain ⟨lb, hlb⟩ : ∃ m, m = b.length := ⟨_, rfl⟩
  obtain ⟨Y, hY⟩ : ∃ y, y = num b := ⟨_, rfl⟩
  have hYlt : Y < 4294967296 ^ lb := by rw [hY, hlb]; exact num_lt b hb
  have hYat : ∀ k, at0 b k = Y / 4294967296 ^ k % 4294967296 := fun k => by rw [hY]; exact at0_num b hb k
  have HOa := Lib.hid ha; have HLA := Lib.hid hla; have HYL := Lib.hid hYlt; have HYA := Lib.hid hYat; have HOb := Lib.hid hb
  rw [← hla] at HLa hl ⊢
  rw [← hlb] at HLb hl2 ⊢
  rw [← hY]
  obtain ⟨N, hN⟩ : ∃ n, n = la + lb + 1 := ⟨_, rfl⟩
  have hmk := mk22 N (by omega)
  have ec : ((N : Nat) : Int) = (la : Int) + (lb : Int) + 1 := by omega
  rw [ec] at hmk
  have HN := Lib.hid hN
  clear hr hr2 hn hn2 hc hc2 ha hb hla hlb hY hYlt hYat ec hN
  go_enter Try.func53, Try.ntmps53
  go_wp2
  clear hmk
  go_loopw [6] (fun s7 wr => ∃ i : Nat, i ≤ la ∧ s7 = .int .i64 ((i : Nat) : Int) ∧ ∃ l, TmI w N i Y (num (a.take i)) l wr) (fun s7 _ => la - (intOf s7).toNat)
  case atStart =>
    refine ⟨0, Nat.zero_le _, rfl, List.replicate N 0, by simp, ok_rep _, by rw [num_rep, List.take_zero, show num [] = 0 from rfl, Nat.zero_mul], ?_, (Below.refl _ _).alloc (Nat.le_refl _) _⟩
    exact Blk.new w 60 (Lc (List.replicate N 0))
  case round =>
    obtain ⟨i, hi, rfl, l, hlen, hok, hnum, hblk, hbel⟩ := hrel
    rcases Nat.lt_or_ge i la with hlt | hge
    · have hx := at0_lt a HOa.out i
      have hP := num_take_at a i (by rw [← HLA.out]; exact hlt)
      have hPl := num_take_lt a HOa.out (i + 1)
      have HP := Lib.hid (And.intro hP hPl)
      obtain ⟨x, ex⟩ : ∃ x, x = at0 a i := ⟨_, rfl⟩
      rw [← ex] at hx HP
      have CA := Lib.hid (fun W (h : Below w.heap.size w W) => HLa.out W h i (by omega))
      rw [← ex] at CA
      have HI := Lib.hid (And.intro hlen (And.intro hok (And.intro hnum (And.intro hblk hbel))))
      have hiI : (i : Int) < (la : Int) := by omega
      obtain ⟨P, hPP⟩ : ∃ p, p = num (a.take i) * Y := ⟨_, rfl⟩
      rw [← hPP] at HI
      have HPP := Lib.hid hPP
      clear hP hPl ex hlen hok hnum hblk hbel hPP
      go_wp2
      go_loopw [7, 8] (fun s9 s10 wr => ∃ k : Nat, k ≤ lb + 1 ∧ TmJ w N i k P Y x s9 s10 wr) (fun _ s10 _ => lb + 1 - (intOf s10).toNat)
      case atStart =>
        obtain ⟨h1, h2, h3, h4, h5⟩ := HI.out
        exact ⟨0, Nat.zero_le _, l, 0, rfl, rfl, by omega, h1, h2, by rw [h3]; simp [Nat.mod_one], h4, h5⟩
      case round =>
        obtain ⟨k, hk, l2, carry, rfl, rfl, hcar, hlen, hok, hinv, hblk, hbel⟩ := hrel
        rcases Nat.lt_or_ge k (lb + 1) with hlt2 | hge2
        · have hik : i + k < l2.length := by rw [hlen, HN.out]; omega
          obtain ⟨hm1, hm2⟩ := mul_step l2 P x Y i k carry hik hok hcar hx hinv
          rw [← HYA.out k] at hm1 hm2
          have hy := at0_lt b HOb.out k
          have CB := Lib.hid (fun n => HLb.out (wr.drewN n) (below_drewN hbel n) k (by omega))
          have CA1 := Lib.hid (fun n => CA.out (wr.drewN n) (below_drewN hbel n))
          obtain ⟨y, ey⟩ : ∃ y, y = at0 b k := ⟨_, rfl⟩
          rw [← ey] at hm1 hm2 hy CB
          have hz := hok.get (i + k) hik
          have hcell : wr.cell? ⟨w.heap.size, i + k, none⟩ = some (.int .u32 ((l2[i + k] : Nat) : Int)) := by rw [hblk.cell, Lc_get l2 _ hik]
          have hfr := hblk.frozen (i + k)
          obtain ⟨z, ez⟩ : ∃ z, z = l2[i + k] := ⟨_, rfl⟩
          rw [← ez] at hm1 hm2 hz hcell
          obtain ⟨s, hs⟩ : ∃ s, s = (x * y + z + carry) := ⟨_, rfl⟩
          rw [← hs] at hm1 hm2
          have hput := hblk.put (i + k) (.int .u32 ((s % 4294967296 : Nat) : Int))
          rw [Lc_set] at hput
          have hokp := ok_set hok (i + k) (s % 4294967296) (by omega)
          have hbp := hbel.setCell (p := ⟨w.heap.size, i + k, none⟩) (Nat.le_refl _) (.int .u32 ((s % 4294967296 : Nat) : Int))
          have HQ := Lib.hid (And.intro hm1 (And.intro hm2 (And.intro hput (And.intro hokp hbp))))
          have HLEN := Lib.hid (show (l2.set (i + k) (s % 4294967296)).length = N by rw [List.length_set]; exact hlen)
          have b1 : x * y ≤ 4294967295 * 4294967295 := Nat.mul_le_mul (by omega) (by omega)
          have b2 : ((x * y : Nat) : Int) = (x : Int) * (y : Int) := by simp
          have b3 : ((x : Int) * (y : Int)) ≤ 18446744065119617025 := by omega
          have b0 : 0 ≤ ((x : Int) * (y : Int)) := by omega
          have eS : (x : Int) * (y : Int) + (z : Int) + (carry : Int) = (s : Int) := by omega
          have hs1 : (x : Int) * (y : Int) + (z : Int) ≤ 18446744069414584320 := by omega
          have hs2 : (x : Int) * (y : Int) + (z : Int) + (carry : Int) ≤ 18446744073709551615 := by omega
          have ei : ((i : Int) + (k : Int)).toNat = i + k := by omega
          have ej : (i : Int) + (k : Int) < (N : Int) := by have := HN.out; omega
          have ek : 0 ≤ (i : Int) + (k : Int) := by omega
          have el : (k : Int) ≤ (lb : Int) := by omega
          have ES := Lib.hid eS
          have HKI := Lib.hid (show k + 1 ≤ lb + 1 by omega)
          clear hm1 hm2 hput hokp hbp hinv hblk hbel hlen hok ey ez hs b1 b2 eS hcar hz hy hik hlt2
          go_wp2
          go_quiet (first | (with_reducible exact quiet_eq (CA1.out _)) | (with_reducible exact quiet_eq (CB.out _)))
          go_wp2
          go_roundw
          case rel =>
            obtain ⟨q1, q2, q3, q4, q5⟩ := HQ.out
            have ed : ((s / 4294967296 : Nat) : Int) = ((x : Int) * (y : Int) + (z : Int) + (carry : Int)) / 4294967296 := by rw [ES.out]; rfl
            have em : ((s % 4294967296 : Nat) : Int) = ((x : Int) * (y : Int) + (z : Int) + (carry : Int)) % 4294967296 := by rw [ES.out]; rfl
            refine ⟨k + 1, HKI.out, _, s / 4294967296, by go_num, by rw [ed], q2, HLEN.out, q4, q1, ?_, ?_⟩
            · rw [← em]; exact q3
            · rw [← em]; exact below_drewN q5 _
          case measure => simp only [intOf]; omega
        · have hkE : k = lb + 1 := by omega
          subst hkE
          obtain ⟨r1, r2⟩ := HP.out
          have hT : P + 4294967296 ^ i * (x * Y) = num (a.take (i + 1)) * Y := by rw [r1, HPP.out, Nat.add_mul, Nat.mul_assoc]
          obtain ⟨e1, e2⟩ := mul_row l2 P x Y i lb carry (num (a.take (i + 1))) HYL.out r2 hT hinv
          have HF := Lib.hid (show TmI w N (i + 1) Y (num (a.take (i + 1))) l2 wr from ⟨hlen, hok, e1, hblk, hbel⟩)
          have HII := Lib.hid (show i + 1 ≤ la by omega)
          clear hinv hblk hbel hlen hok e1 e2 hT r1 r2 hcar hge2
          go_wp2
          go_roundw
          case rel => exact ⟨i + 1, HII.out, by go_num, l2, HF.out⟩
          case measure => simp only [intOf]; omega
    · have hiE : i = la := by omega
      subst hiE
      have hn2 : num l = num a * Y := by rw [hnum, List.take_of_length_le (by rw [HLA.out]; exact Nat.le_refl _)]
      have hdz : dropz l = lim (num a * Y) := by rw [← hn2, lim_num l hok]
      have HSL := Lib.hid (show Sl wr (.slice (some ⟨w.heap.size, 0, none⟩) N N) l from ⟨_, N, by rw [hlen], by rw [hlen]; exact Nat.le_refl _, (fun e => by cases e), (Rd.of_blk0 hblk).more hblk.lt⟩)
      have HTR := Lib.hid (trim_own HSL.out (by rw [hlen, HN.out]; omega))
      rw [hdz] at HTR
      have HBE := Lib.hid hbel
      clear hn2 hdz hnum hok hlen hblk hbel hge hi
      go_wp2_with fail
      refine HTR.out.mono ?_
      rintro e w2 ⟨v, rfl, hs, hb⟩
      have HS := Lib.hid (own_mono hs HBE.out.size); have HB2 := Lib.hid (below_step HBE.out hb)
      clear hs hb
      go_wp2_with fail
      go_ret
      exact ⟨v, rfl, HS.out, HB2.out⟩
theorem rtimes_any {v1 v2 : Value} {a b : List Nat} {w : World} (h1 : Sl w v1 a) (h2 : Sl w v2 b) (ha : Ok a) (hb : Ok b) (hl : a.length ≤ 40000) (hl2 : b.length ≤ 40000) : Calls Try.prog 53 #[v1, v2] w (CpP w (lim (num a * num b))) :=
  (rtimes_own h1 h2 ha hb hl hl2).mono fun _ _ h => h.sl
end Go.Proofs.Ytbfhilbagojdnaa
namespace Go.Proofs.Ytbfhilbagojdnaa
open Go.RowKit Wr Go.Proofs.Ytbfhilbagojdnaa.Nm
set_option linter.unusedVariables false
set_option maxRecDepth 100000

theorem own_len {w : World} {base g n cap : Nat} {l : List Nat} (h : w.ownsRow base 60 1 (.slice (some ⟨g, 0, none⟩) n cap) n (Lc l)) : l.length = n := by have := h.1; rw [Lc_len] at this; omega
theorem own_cap {w : World} {base g n cap : Nat} {xs : List Value} (h : w.ownsRow base 60 1 (.slice (some ⟨g, 0, none⟩) n cap) n xs) : n ≤ cap := by
  rcases h.2 with ⟨h', _⟩ | ⟨g', cap', cur, h', hb, hg, hnc, hcm, hcs, htake⟩
  · simp at h'
  · simp only [Value.slice.injEq, Option.some.injEq, Addr.mk.injEq, and_true, true_and] at h'
    obtain ⟨rfl, rfl⟩ := h'
    exact hnc
theorem own_cut {w : World} {base g n cap k : Nat} {l : List Nat} (h : w.ownsRow base 60 1 (.slice (some ⟨g, 0, none⟩) n cap) n (Lc l)) (hk : k ≤ n) : w.ownsRow base 60 1 (.slice (some ⟨g, 0, none⟩) k cap) k (Lc (l.take k)) := by
  have hl := own_len h
  rcases h.2 with ⟨h', _⟩ | ⟨g', cap', cur, h', hb, hg, hnc, hcm, hcs, htake⟩
  · simp at h'
  · simp only [Value.slice.injEq, Option.some.injEq, Addr.mk.injEq, and_true, true_and] at h'
    obtain ⟨rfl, rfl⟩ := h'
    refine ⟨by rw [Lc_len, List.length_take]; omega, .inr ⟨g, cap, cur, rfl, hb, hg, by omega, hcm, hcs, ?_⟩⟩
    rw [← Lc_take, ← htake, List.take_take, Nat.mul_one, Nat.mul_one, Nat.min_eq_left hk]
theorem own_cell {w : World} {base g n cap : Nat} {l : List Nat} (h : w.ownsRow base 60 1 (.slice (some ⟨g, 0, none⟩) n cap) n (Lc l)) (k : Nat) (hk : k < l.length) : w.cell? ⟨g, k, none⟩ = some (.int .u32 ((l[k] : Nat) : Int)) := by
  have hl := own_len h
  rw [h.cellAt k (by omega), Lc_get l k hk]
theorem own_put {w : World} {base g n cap : Nat} {l : List Nat} (h : w.ownsRow base 60 1 (.slice (some ⟨g, 0, none⟩) n cap) n (Lc l)) (k x : Nat) : (w.setCell ⟨g, k, none⟩ (.int .u32 ((x : Nat) : Int))).ownsRow base 60 1 (.slice (some ⟨g, 0, none⟩) n cap) n (Lc (l.set k x)) := by
  have := (h.stored k (.int .u32 ((x : Nat) : Int))).1
  rwa [Lc_set] at this
theorem own_rd {w : World} {base g n cap : Nat} {l : List Nat} (h : w.ownsRow base 60 1 (.slice (some ⟨g, 0, none⟩) n cap) n (Lc l)) : Rd w w.heap.size (some ⟨g, 0, none⟩) (Lc l) := Rd.of_own h
theorem or31 (a b : Nat) (ha : a < 2147483648) (hb : b < 2) : bits BinOp.or IntKind.u32 ((a : Nat) : Int) ((b * 2147483648 : Nat) : Int) = ((a + b * 2147483648 : Nat) : Int) := by
  have e : (2 : Nat) ^ 31 = 2147483648 := by decide
  have h := or_add a b 31 (by rw [e]; exact ha)
  rw [e] at h
  rw [u32_or_nat _ _ (by omega) (by omega), h]
theorem grown_drew {w w' : World} {g : Option Nat} (h : w.grownBy w' g) (n : Nat) : w.grownBy (w'.drewN n) g := ⟨h.os, h.tape, h.output, h.size, h.block⟩
def HfP (w : World) (base g cap x : Nat) (e : Ending) (w' : World) : Prop := e = .returned (.slice (some ⟨g, 0, none⟩) (lim x).length cap) ∧ w'.ownsRow base 60 1 (.slice (some ⟨g, 0, none⟩) (lim x).length cap) (lim x).length (Lc (lim x)) ∧ w.grownBy w' (some g)
/-- The list while it is halved. -/
def hfL (l : List Nat) (V i : Nat) : List Nat := digs i (V / 2) ++ l.drop i
theorem hf_len (l : List Nat) (V i : Nat) (h : i ≤ l.length) : (hfL l V i).length = l.length := by unfold hfL; rw [List.length_append, digs_len, List.length_drop]; omega
theorem hf_at (l : List Nat) (V i : Nat) (h : i < l.length) : (hfL l V i)[i]'(by rw [hf_len l V i (by omega)]; exact h) = l[i] := by
  unfold hfL; rw [List.getElem_append_right (by rw [digs_len]; exact Nat.le_refl _)]; simp [digs_len]
theorem hf_at0 (l : List Nat) (V i k : Nat) (h : i ≤ k) : at0 (hfL l V i) k = at0 l k := by
  unfold at0 hfL
  rw [List.getD_eq_getElem?_getD, List.getD_eq_getElem?_getD, List.getElem?_append_right (by rw [digs_len]; exact h), digs_len, List.getElem?_drop, show i + (k - i) = k by omega]
theorem hf_ok {l : List Nat} (ho : Ok l) (V i : Nat) : Ok (hfL l V i) := (digs_ok _ _).append (ho.drop _)
theorem hf_step (l : List Nat) (ho : Ok l) (i : Nat) (h : i < l.length) : (hfL l (num l) i).set i (l[i] / 2 + at0 l (i + 1) % 2 * 2147483648) = hfL l (num l) (i + 1) := by
  have h1 := half_digit (num l) i
  rw [← at0_num l ho, ← at0_num l ho, at0_in l i h] at h1
  unfold hfL
  rw [set_snoc l _ i _ h (digs_len _ _), digs_snoc, h1]
set_option maxHeartbeats 2000000 in
theorem half_own {base g n cap : Nat} {l : List Nat} {w : World} (hown : w.ownsRow base 60 1 (.slice (some ⟨g, 0, none⟩) n cap) n (Lc l)) (ho : Ok l) (hn : n ≤ 1000000) : Calls Try.prog 75 #[.slice (some ⟨g, 0, none⟩) n cap] w (HfP w base g cap (num l / 2)) := by
  have hlen := own_len hown
  have hcap := own_cap hown
  obtain ⟨V, hV⟩ : ∃ v, v = num l := ⟨_, rfl⟩
  have HV := Lib.hid hV; have HO := Lib.hid ho; have HLEN := Lib.hid hlen
  have hVn : V / 2 < 4294967296 ^ n := by have := num_lt l ho; rw [hlen, ← hV] at this; omega
  have HVN := Lib.hid hVn
  rw [← hV]
  clear hV ho hVn hlen
  go_enter Try.func75, Try.ntmps75
  go_wp2
  go_loopw [4] (fun s4 wr => ∃ i : Nat, i ≤ n ∧ s4 = .int .i64 ((i : Nat) : Int) ∧ wr.ownsRow base 60 1 (.slice (some ⟨g, 0, none⟩) n cap) n (Lc (hfL l V i)) ∧ w.grownBy wr (some g)) (fun s4 _ => n - (intOf s4).toNat)
  case atStart => exact ⟨0, Nat.zero_le _, rfl, by simpa [hfL, digs] using hown, grown_refl _ _⟩
  case round =>
    clear hown
    obtain ⟨i, hi, rfl, hown, hg⟩ := hrel
    rcases Nat.lt_or_ge i n with hlt | hge
    · have hil : i < l.length := by rw [HLEN.out]; exact hlt
      have hcell := own_cell hown i (by rw [hf_len l V i (by omega)]; exact hil)
      rw [hf_at l V i hil] at hcell
      have hfr := hown.frozenAt i
      have CY := Lib.hid (fun n' => rlimb_any (some ⟨g, 0, none⟩) cap (hfL l V i) (i + 1) wr.heap.size (wr.drewN n') (own_rd hown) (by rw [hf_len l V i (by omega), HLEN.out]; omega) (by omega) (hf_ok HO.out V i))
      rw [hf_len l V i (by omega), HLEN.out, hf_at0 l V i (i + 1) (by omega), show ((i + 1 : Nat) : Int) = (i : Int) + 1 by omega] at CY
      have hst := hf_step l HO.out i hil
      rw [← HV.out] at hst
      have hz := HO.out.get i hil
      have hy := at0_lt l HO.out (i + 1)
      obtain ⟨z, ez⟩ : ∃ z, z = l[i] := ⟨_, rfl⟩
      obtain ⟨y, ey⟩ : ∃ y, y = at0 l (i + 1) := ⟨_, rfl⟩
      rw [← ez] at hcell hst hz
      rw [← ey] at CY hst hy
      have hor := or31 (z / 2) (y % 2) (by omega) (by omega)
      obtain ⟨r, er⟩ : ∃ r, r = z / 2 + y % 2 * 2147483648 := ⟨_, rfl⟩
      rw [← er] at hor hst
      obtain ⟨zh, ezh⟩ : ∃ q, q = z / 2 := ⟨_, rfl⟩
      obtain ⟨ys, eys⟩ : ∃ q, q = y * 2147483648 := ⟨_, rfl⟩
      obtain ⟨yt, eyt⟩ : ∃ q, q = y % 2 * 2147483648 := ⟨_, rfl⟩
      rw [← ezh, ← eyt] at hor
      have HOR := Lib.hid hor
      have HZH := Lib.hid (show (z : Int) / 2 = (zh : Int) by omega)
      have HYS := Lib.hid (show IntKind.u64.wrap ((y : Int) * 2147483648) = (ys : Int) by rw [eys, IntKind.wrap_u64]; omega)
      have HYT := Lib.hid (show IntKind.u32.wrap (ys : Int) = (yt : Int) by rw [eyt, eys, IntKind.wrap_u32]; omega)
      have hput := own_put hown i r
      rw [hst] at hput
      have HP := Lib.hid (And.intro hput (grown_put hg i (.int .u32 ((r : Nat) : Int))))
      have HIN := Lib.hid (show i + 1 ≤ n by omega)
      have hiI : (i : Int) < (n : Int) := by omega
      have CY := Lib.hid (CY.out 1)
      have HP : Hid (((wr.drewN 1).setCell ⟨g, i, none⟩ (.int .u32 ((r : Nat) : Int))).ownsRow base 60 1 (.slice (some ⟨g, 0, none⟩) n cap) n (Lc (hfL l V (i + 1))) ∧ w.grownBy ((wr.drewN 1).setCell ⟨g, i, none⟩ (.int .u32 ((r : Nat) : Int))) (some g)) := Lib.hid ⟨HP.out.1, ⟨HP.out.2.os, HP.out.2.tape, HP.out.2.output, HP.out.2.size, HP.out.2.block⟩⟩
      have hcell : (World.drew wr).cell? ⟨g, i, none⟩ = some (.int .u32 ((z : Nat) : Int)) := hcell
      have hfr : (World.drew wr).frozen? ⟨g, i, none⟩ = false := hfr
      have CY : Hid (Calls Try.prog 86 #[.slice (some ⟨g, 0, none⟩) n cap, .int .i64 ((i : Int) + 1)] (World.drew wr) fun e w' => e = .returned (.int .u64 ((y : Nat) : Int)) ∧ World.drew wr = w') := CY
      have HP : Hid (((World.drew wr).setCell ⟨g, i, none⟩ (.int .u32 ((r : Nat) : Int))).ownsRow base 60 1 (.slice (some ⟨g, 0, none⟩) n cap) n (Lc (hfL l V (i + 1))) ∧ w.grownBy ((World.drew wr).setCell ⟨g, i, none⟩ (.int .u32 ((r : Nat) : Int))) (some g)) := HP
      clear hst hput hor er ezh eys eyt ez ey hown hg hz hy hil hlt
      go_wp2
      refine wp_region_any (by kernel_rfl) ?_
      change wpAny _ _ _ _ _ _ _ (World.drew wr)
      generalize World.drew wr = wd at hcell hfr CY HP ⊢
      refine wpAny_take (i := 0) (oi := { dst := some 12, op := Op.move (Operand.tmp 0), type := 22, pos := "ref.go:86", after := #[], guard := none }) (v := .slice (some ⟨g, 0, none⟩) n cap) rfl (by kernel_rfl) (by kernel_rfl) (by kernel_rfl) (fun _ _ _ h => h) (Or.inl ⟨by rfl, fun W => ?y1⟩) ?_
      case y1 => go_simp
      try dsimp only [Act.put]
      try simp only [List.setIfInBounds_toArray, List.set_cons_zero, List.set_cons_succ]
      refine wpAny_take (i := 1) (oi := { dst := some 13, op := Op.move (Operand.tmp 4), type := 3, pos := "ref.go:86", after := #[], guard := none }) (v := .int .i64 ((i : Nat) : Int)) rfl (by kernel_rfl) (by kernel_rfl) (by kernel_rfl) (fun _ _ _ h => h) (Or.inl ⟨by rfl, fun W => ?y2⟩) ?_
      case y2 => go_simp
      try dsimp only [Act.put]
      try simp only [List.setIfInBounds_toArray, List.set_cons_zero, List.set_cons_succ]
      refine wpAny_take (i := 2) (oi := { dst := some 14, op := Op.move (Operand.tmp 0), type := 22, pos := "ref.go:86", after := #[], guard := none }) (v := .slice (some ⟨g, 0, none⟩) n cap) rfl (by kernel_rfl) (by kernel_rfl) (by kernel_rfl) (fun _ _ _ h => h) (Or.inl ⟨by rfl, fun W => ?y3⟩) ?_
      case y3 => go_simp
      try dsimp only [Act.put]
      try simp only [List.setIfInBounds_toArray, List.set_cons_zero, List.set_cons_succ]
      refine wpAny_take (i := 3) (oi := { dst := some 15, op := Op.move (Operand.tmp 4), type := 3, pos := "ref.go:86", after := #[], guard := none }) (v := .int .i64 ((i : Nat) : Int)) rfl (by kernel_rfl) (by kernel_rfl) (by kernel_rfl) (fun _ _ _ h => h) (Or.inl ⟨by rfl, fun W => ?y4⟩) ?_
      case y4 => go_simp
      try dsimp only [Act.put]
      try simp only [List.setIfInBounds_toArray, List.set_cons_zero, List.set_cons_succ]
      refine wpAny_take (i := 4) (oi := { dst := some 16, op := Op.indexAddr 22 (Operand.tmp 14) (Operand.tmp 15), type := 0, pos := "ref.go:86", after := #[{ on := 2, ground := Ground.data }, { on := 3, ground := Ground.data }], guard := none }) (v := .pointer (some ⟨g, i, none⟩)) rfl (by kernel_rfl) (by kernel_rfl) (by kernel_rfl) (fun _ _ _ h => h) (Or.inl ⟨by rfl, fun W => ?y5⟩) ?_
      case y5 => go_simp
      try dsimp only [Act.put]
      try simp only [List.setIfInBounds_toArray, List.set_cons_zero, List.set_cons_succ]
      refine wpAny_take (i := 7) (oi := { dst := some 19, op := Op.move (Operand.tmp 0), type := 22, pos := "ref.go:86", after := #[], guard := none }) (v := .slice (some ⟨g, 0, none⟩) n cap) rfl (by kernel_rfl) (by kernel_rfl) (by kernel_rfl) (fun _ _ _ h => h) (Or.inl ⟨by rfl, fun W => ?y6⟩) ?_
      case y6 => go_simp
      try dsimp only [Act.put]
      try simp only [List.setIfInBounds_toArray, List.set_cons_zero, List.set_cons_succ]
      refine wpAny_take (i := 8) (oi := { dst := some 20, op := Op.move (Operand.tmp 4), type := 3, pos := "ref.go:86", after := #[], guard := none }) (v := .int .i64 ((i : Nat) : Int)) rfl (by kernel_rfl) (by kernel_rfl) (by kernel_rfl) (fun _ _ _ h => h) (Or.inl ⟨by rfl, fun W => ?y7⟩) ?_
      case y7 => go_simp
      try dsimp only [Act.put]
      try simp only [List.setIfInBounds_toArray, List.set_cons_zero, List.set_cons_succ]
      refine wpAny_take (i := 9) (oi := { dst := some 21, op := Op.binOp BinOp.add 3 (Operand.tmp 20) (Operand.const (Value.int IntKind.i64 1)) 3, type := 3, pos := "ref.go:86", after := #[{ on := 8, ground := Ground.data }], guard := none }) (v := .int .i64 ((i : Int) + 1)) rfl (by kernel_rfl) (by kernel_rfl) (by kernel_rfl) (fun _ _ _ h => h) (Or.inl ⟨by rfl, fun W => (by go_simp; exact IntWalk.i64_in _ (by omega))⟩) ?_
      try dsimp only [Act.put]
      try simp only [List.setIfInBounds_toArray, List.set_cons_zero, List.set_cons_succ]
      refine wpAny_ready (rs := [5, 10]) (by kernel_rfl) (by simp) ?_
      refine AllReady.cons (o := { dst := some 17, op := Op.load 60 (Operand.tmp 16), type := 60, pos := "ref.go:86", after := #[{ on := 4, ground := Ground.data }], guard := none }) rfl (fun K hK => ?_) (AllReady.cons (o := { dst := some 22, op := Op.call { callee := Callee.value (Operand.func 86), args := #[Operand.tmp 19, Operand.tmp 21], argTypes := #[22, 3] }, type := 56, pos := "ref.go:86", after := #[{ on := 7, ground := Ground.data }, { on := 9, ground := Ground.data }], guard := none }) rfl (fun K hK => ?_) AllReady.nil)
      · rw [if_pos (by rfl)]
        go_simp
        (try (refine hK _ _ ?_; clear hK K))
        try dsimp only [Act.put]
        try simp only [List.setIfInBounds_toArray, List.set_cons_zero, List.set_cons_succ]
        refine wpAny_take (i := 6) (oi := { dst := some 18, op := Op.binOp BinOp.shr 60 (Operand.tmp 17) (Operand.const (Value.int IntKind.u64 1)) 73, type := 60, pos := "ref.go:86", after := #[{ on := 5, ground := Ground.data }], guard := none }) (v := .int .u32 ((zh : Nat) : Int)) rfl (by kernel_rfl) (by kernel_rfl) (by kernel_rfl) (fun _ _ _ h => h) (Or.inl ⟨by rfl, fun W => (by have h := HZH.out; go_simp)⟩) ?_
        try dsimp only [Act.put]
        try simp only [List.setIfInBounds_toArray, List.set_cons_zero, List.set_cons_succ]
        refine wpAny_ready (rs := [10]) (by kernel_rfl) (by simp) ?_
        refine AllReady.cons (o := { dst := some 22, op := Op.call { callee := Callee.value (Operand.func 86), args := #[Operand.tmp 19, Operand.tmp 21], argTypes := #[22, 3] }, type := 56, pos := "ref.go:86", after := #[{ on := 7, ground := Ground.data }, { on := 9, ground := Ground.data }], guard := none }) rfl (fun K hK => ?_) AllReady.nil
        rw [if_pos (by rfl)]
        go_simp
        refine CY.out.mono ?_; rintro e wx ⟨rfl, rfl⟩
        go_wp2_with fail
        (try (refine hK _ _ ?_; clear hK K))
        try dsimp only [Act.put]
        try simp only [List.setIfInBounds_toArray, List.set_cons_zero, List.set_cons_succ]
        refine wpAny_take (i := 11) (oi := { dst := some 23, op := Op.binOp BinOp.shl 56 (Operand.tmp 22) (Operand.const (Value.int IntKind.u64 31)) 73, type := 56, pos := "ref.go:86", after := #[{ on := 10, ground := Ground.data }], guard := none }) (v := .int .u64 ((ys : Nat) : Int)) rfl (by kernel_rfl) (by kernel_rfl) (by kernel_rfl) (fun _ _ _ h => h) (Or.inl ⟨by rfl, fun W => (by have h := HYS.out; go_simp)⟩) ?_
        try dsimp only [Act.put]
        try simp only [List.setIfInBounds_toArray, List.set_cons_zero, List.set_cons_succ]
        refine wpAny_take (i := 12) (oi := { dst := some 24, op := Op.convert 56 60 (Operand.tmp 23), type := 60, pos := "ref.go:86", after := #[{ on := 11, ground := Ground.data }], guard := none }) (v := .int .u32 ((yt : Nat) : Int)) rfl (by kernel_rfl) (by kernel_rfl) (by kernel_rfl) (fun _ _ _ h => h) (Or.inl ⟨by rfl, fun W => (by have h := HYT.out; go_simp)⟩) ?_
        try dsimp only [Act.put]
        try simp only [List.setIfInBounds_toArray, List.set_cons_zero, List.set_cons_succ]
        refine wpAny_take (i := 13) (oi := { dst := some 25, op := Op.binOp BinOp.or 60 (Operand.tmp 18) (Operand.tmp 24) 60, type := 60, pos := "ref.go:86", after := #[{ on := 6, ground := Ground.data }, { on := 12, ground := Ground.data }], guard := none }) (v := .int .u32 ((r : Nat) : Int)) rfl (by kernel_rfl) (by kernel_rfl) (by kernel_rfl) (fun _ _ _ h => h) (Or.inl ⟨by rfl, fun W => (by have h := HOR.out; go_simp)⟩) ?_
        try dsimp only [Act.put]
        try simp only [List.setIfInBounds_toArray, List.set_cons_zero, List.set_cons_succ]
        refine wpAny_take (i := 14) (oi := { dst := some 26, op := Op.indexAddr 22 (Operand.tmp 12) (Operand.tmp 13), type := 0, pos := "ref.go:86", after := #[{ on := 0, ground := Ground.data }, { on := 1, ground := Ground.data }, { on := 0, ground := Ground.phase }, { on := 1, ground := Ground.phase }, { on := 2, ground := Ground.phase }, { on := 3, ground := Ground.phase }, { on := 4, ground := Ground.phase }, { on := 5, ground := Ground.phase }, { on := 6, ground := Ground.phase }, { on := 7, ground := Ground.phase }, { on := 8, ground := Ground.phase }, { on := 9, ground := Ground.phase }, { on := 10, ground := Ground.phase }, { on := 11, ground := Ground.phase }, { on := 12, ground := Ground.phase }, { on := 13, ground := Ground.phase }], guard := none }) (v := .pointer (some ⟨g, i, none⟩)) rfl (by kernel_rfl) (by kernel_rfl) (by kernel_rfl) (fun _ _ _ h => h) (Or.inl ⟨by rfl, fun W => ?y13⟩) ?_
        case y13 => go_simp
        try dsimp only [Act.put]
        try simp only [List.setIfInBounds_toArray, List.set_cons_zero, List.set_cons_succ]
        refine wpAny_ready (rs := [15]) (by kernel_rfl) (by simp) ?_
        refine AllReady.cons (o := { dst := none, op := Op.store 60 (Operand.tmp 26) (Operand.tmp 25), type := 0, pos := "ref.go:86", after := #[{ on := 14, ground := Ground.data }, { on := 13, ground := Ground.data }, { on := 10, ground := Ground.chain }, { on := 0, ground := Ground.phase }, { on := 1, ground := Ground.phase }, { on := 2, ground := Ground.phase }, { on := 3, ground := Ground.phase }, { on := 4, ground := Ground.phase }, { on := 5, ground := Ground.phase }, { on := 6, ground := Ground.phase }, { on := 7, ground := Ground.phase }, { on := 8, ground := Ground.phase }, { on := 9, ground := Ground.phase }, { on := 10, ground := Ground.phase }, { on := 11, ground := Ground.phase }, { on := 12, ground := Ground.phase }, { on := 13, ground := Ground.phase }], guard := none }) rfl (fun K hK => ?_) AllReady.nil
        rw [if_pos (by rfl)]
        go_simp
        (try (refine hK _ _ ?_; clear hK K))
        try dsimp only [Act.put]
        try simp only [List.setIfInBounds_toArray, List.set_cons_zero, List.set_cons_succ]
        refine wpAny_done (by kernel_rfl) ?_ _
        try dsimp only [Act.put]
        try simp only [List.setIfInBounds_toArray, List.set_cons_zero, List.set_cons_succ]
        go_wp2
        go_roundw
        case rel => exact ⟨i + 1, HIN.out, by go_num, HP.out.1, HP.out.2⟩
        case measure => simp only [intOf]; omega
      · rw [if_pos (by rfl)]
        go_simp
        refine CY.out.mono ?_; rintro e wx ⟨rfl, rfl⟩
        go_wp2_with fail
        (try (refine hK _ _ ?_; clear hK K))
        try dsimp only [Act.put]
        try simp only [List.setIfInBounds_toArray, List.set_cons_zero, List.set_cons_succ]
        refine wpAny_take (i := 11) (oi := { dst := some 23, op := Op.binOp BinOp.shl 56 (Operand.tmp 22) (Operand.const (Value.int IntKind.u64 31)) 73, type := 56, pos := "ref.go:86", after := #[{ on := 10, ground := Ground.data }], guard := none }) (v := .int .u64 ((ys : Nat) : Int)) rfl (by kernel_rfl) (by kernel_rfl) (by kernel_rfl) (fun _ _ _ h => h) (Or.inl ⟨by rfl, fun W => (by have h := HYS.out; go_simp)⟩) ?_
        try dsimp only [Act.put]
        try simp only [List.setIfInBounds_toArray, List.set_cons_zero, List.set_cons_succ]
        refine wpAny_take (i := 12) (oi := { dst := some 24, op := Op.convert 56 60 (Operand.tmp 23), type := 60, pos := "ref.go:86", after := #[{ on := 11, ground := Ground.data }], guard := none }) (v := .int .u32 ((yt : Nat) : Int)) rfl (by kernel_rfl) (by kernel_rfl) (by kernel_rfl) (fun _ _ _ h => h) (Or.inl ⟨by rfl, fun W => (by have h := HYT.out; go_simp)⟩) ?_
        try dsimp only [Act.put]
        try simp only [List.setIfInBounds_toArray, List.set_cons_zero, List.set_cons_succ]
        refine wpAny_ready (rs := [5]) (by kernel_rfl) (by simp) ?_
        refine AllReady.cons (o := { dst := some 17, op := Op.load 60 (Operand.tmp 16), type := 60, pos := "ref.go:86", after := #[{ on := 4, ground := Ground.data }], guard := none }) rfl (fun K hK => ?_) AllReady.nil
        rw [if_pos (by rfl)]
        go_simp
        (try (refine hK _ _ ?_; clear hK K))
        try dsimp only [Act.put]
        try simp only [List.setIfInBounds_toArray, List.set_cons_zero, List.set_cons_succ]
        refine wpAny_take (i := 6) (oi := { dst := some 18, op := Op.binOp BinOp.shr 60 (Operand.tmp 17) (Operand.const (Value.int IntKind.u64 1)) 73, type := 60, pos := "ref.go:86", after := #[{ on := 5, ground := Ground.data }], guard := none }) (v := .int .u32 ((zh : Nat) : Int)) rfl (by kernel_rfl) (by kernel_rfl) (by kernel_rfl) (fun _ _ _ h => h) (Or.inl ⟨by rfl, fun W => (by have h := HZH.out; go_simp)⟩) ?_
        try dsimp only [Act.put]
        try simp only [List.setIfInBounds_toArray, List.set_cons_zero, List.set_cons_succ]
        refine wpAny_take (i := 13) (oi := { dst := some 25, op := Op.binOp BinOp.or 60 (Operand.tmp 18) (Operand.tmp 24) 60, type := 60, pos := "ref.go:86", after := #[{ on := 6, ground := Ground.data }, { on := 12, ground := Ground.data }], guard := none }) (v := .int .u32 ((r : Nat) : Int)) rfl (by kernel_rfl) (by kernel_rfl) (by kernel_rfl) (fun _ _ _ h => h) (Or.inl ⟨by rfl, fun W => (by have h := HOR.out; go_simp)⟩) ?_
        try dsimp only [Act.put]
        try simp only [List.setIfInBounds_toArray, List.set_cons_zero, List.set_cons_succ]
        refine wpAny_take (i := 14) (oi := { dst := some 26, op := Op.indexAddr 22 (Operand.tmp 12) (Operand.tmp 13), type := 0, pos := "ref.go:86", after := #[{ on := 0, ground := Ground.data }, { on := 1, ground := Ground.data }, { on := 0, ground := Ground.phase }, { on := 1, ground := Ground.phase }, { on := 2, ground := Ground.phase }, { on := 3, ground := Ground.phase }, { on := 4, ground := Ground.phase }, { on := 5, ground := Ground.phase }, { on := 6, ground := Ground.phase }, { on := 7, ground := Ground.phase }, { on := 8, ground := Ground.phase }, { on := 9, ground := Ground.phase }, { on := 10, ground := Ground.phase }, { on := 11, ground := Ground.phase }, { on := 12, ground := Ground.phase }, { on := 13, ground := Ground.phase }], guard := none }) (v := .pointer (some ⟨g, i, none⟩)) rfl (by kernel_rfl) (by kernel_rfl) (by kernel_rfl) (fun _ _ _ h => h) (Or.inl ⟨by rfl, fun W => ?y18⟩) ?_
        case y18 => go_simp
        try dsimp only [Act.put]
        try simp only [List.setIfInBounds_toArray, List.set_cons_zero, List.set_cons_succ]
        refine wpAny_ready (rs := [15]) (by kernel_rfl) (by simp) ?_
        refine AllReady.cons (o := { dst := none, op := Op.store 60 (Operand.tmp 26) (Operand.tmp 25), type := 0, pos := "ref.go:86", after := #[{ on := 14, ground := Ground.data }, { on := 13, ground := Ground.data }, { on := 10, ground := Ground.chain }, { on := 0, ground := Ground.phase }, { on := 1, ground := Ground.phase }, { on := 2, ground := Ground.phase }, { on := 3, ground := Ground.phase }, { on := 4, ground := Ground.phase }, { on := 5, ground := Ground.phase }, { on := 6, ground := Ground.phase }, { on := 7, ground := Ground.phase }, { on := 8, ground := Ground.phase }, { on := 9, ground := Ground.phase }, { on := 10, ground := Ground.phase }, { on := 11, ground := Ground.phase }, { on := 12, ground := Ground.phase }, { on := 13, ground := Ground.phase }], guard := none }) rfl (fun K hK => ?_) AllReady.nil
        rw [if_pos (by rfl)]
        go_simp
        (try (refine hK _ _ ?_; clear hK K))
        try dsimp only [Act.put]
        try simp only [List.setIfInBounds_toArray, List.set_cons_zero, List.set_cons_succ]
        refine wpAny_done (by kernel_rfl) ?_ _
        try dsimp only [Act.put]
        try simp only [List.setIfInBounds_toArray, List.set_cons_zero, List.set_cons_succ]
        go_wp2
        go_roundw
        case rel => exact ⟨i + 1, HIN.out, by go_num, HP.out.1, HP.out.2⟩
        case measure => simp only [intOf]; omega
    · have hiE : i = n := by omega
      subst hiE
      rw [show hfL l V i = digs i (V / 2) by unfold hfL; rw [List.drop_of_length_le (by rw [HLEN.out]; exact Nat.le_refl _), List.append_nil]] at hown
      have HOW := Lib.hid hown; have HG := Lib.hid hg
      have hdz := dropz_digs i (V / 2) HVN.out
      have HDZ := Lib.hid hdz
      obtain ⟨D, hD⟩ : ∃ d, d = digs i (V / 2) := ⟨_, rfl⟩
      have hDl : D.length = i := by rw [hD, digs_len]
      rw [← hD] at HOW HDZ
      have HDL := Lib.hid hDl
      clear hown hg hge hi hdz hD hDl
      go_wp2
      go_loop [3] (fun s3 => ∃ k : Nat, k ≤ i ∧ s3 = .int .i64 k ∧ dropz (D.take k) = dropz D) (fun s3 => (intOf s3).toNat)
      case atStart => exact ⟨i, Nat.le_refl _, rfl, by rw [List.take_of_length_le (by rw [HDL.out]; exact Nat.le_refl _)]⟩
      case round =>
        obtain ⟨k, hk, rfl, hd⟩ := hrel
        have HD := Lib.hid hd
        clear hd
        rcases Nat.eq_zero_or_pos k with h0 | h0
        · subst h0
          have hz : lim (V / 2) = D.take 0 := by rw [← HDZ.out, ← HD.out]; simp [dropz]
          have HF := Lib.hid (show wr.ownsRow base 60 1 (.slice (some ⟨g, 0, none⟩) 0 cap) 0 (Lc (D.take 0)) from own_cut HOW.out (Nat.zero_le _))
          have HZ := Lib.hid hz
          clear hz
          go_wp2
          go_ret
          unfold HfP
          rw [HZ.out]
          exact ⟨rfl, HF.out, HG.out⟩
        · obtain ⟨j, rfl⟩ : ∃ j, k = j + 1 := ⟨k - 1, by omega⟩
          have hj : j < D.length := by have := HDL.out; omega
          have hcell := own_cell HOW.out j hj
          have hz : ((j : Int) + 1) > 0 := by omega
          have hz1 : ((j + 1 : Nat) : Int) - 1 = (j : Int) := by omega
          have hjN : (j : Int) < (i : Int) := by omega
          by_cases hx : D[j] = 0
          · have e : dropz (D.take j) = dropz D := by rw [← HD.out, dropz_step D j hj hx]
            have E := Lib.hid e
            rw [hx] at hcell
            clear e hx hj
            go_wp2
            go_round
            case rel => exact ⟨j, by omega, by go_num, E.out⟩
            case measure => simp only [intOf]; omega
          · have hz2 : lim (V / 2) = D.take (j + 1) := by rw [← HDZ.out, ← HD.out, dropz_stop D j hj hx]
            have HZ := Lib.hid hz2
            have HTL := Lib.hid (show (D.take (j + 1)).length = j + 1 by rw [List.length_take]; omega)
            have HF := Lib.hid (own_cut HOW.out (show j + 1 ≤ i by omega))
            have hne : (((D[j] : Nat) : Int) == 0) = false := by rw [beq_eq_false_iff_ne]; omega
            generalize D[j] = x at hcell hne
            clear hx hz2 hj
            go_wp2
            go_ret
            unfold HfP
            rw [HZ.out, HTL.out]
            exact ⟨by go_num, HF.out, HG.out⟩
end Go.Proofs.Ytbfhilbagojdnaa
namespace Go.Proofs.Ytbfhilbagojdnaa
open Go.RowKit Wr Go.Proofs.Ytbfhilbagojdnaa.Nm
set_option linter.unusedVariables false
set_option maxRecDepth 100000

/-- The list while another one is taken off it. -/
def tkL (l : List Nat) (V i : Nat) : List Nat := digs i V ++ l.drop i
theorem tk_len (l : List Nat) (V i : Nat) (h : i ≤ l.length) : (tkL l V i).length = l.length := by unfold tkL; rw [List.length_append, digs_len, List.length_drop]; omega
theorem tk_at (l : List Nat) (V i : Nat) (h : i < l.length) : (tkL l V i)[i]'(by rw [tk_len l V i (by omega)]; exact h) = l[i] := by
  unfold tkL; rw [List.getElem_append_right (by rw [digs_len]; exact Nat.le_refl _)]; simp [digs_len]
theorem tk_step (l : List Nat) (V i x : Nat) (h : i < l.length) (hx : x = V / 4294967296 ^ i % 4294967296) : (tkL l V i).set i x = tkL l V (i + 1) := by
  unfold tkL
  rw [set_snoc l _ i _ h (digs_len _ _), digs_snoc, hx]
set_option maxHeartbeats 4000000 in
theorem take_own {base g n cap : Nat} {l b : List Nat} {v2 : Value} {w : World} (hown : w.ownsRow base 60 1 (.slice (some ⟨g, 0, none⟩) n cap) n (Lc l)) (ho : Ok l) (hn : n ≤ 1000000)
    (hy : ∀ W, w.grownBy W (some g) → Sl W v2 b) (hb : Ok b) (hbl : b.length ≤ 1000000) (hle : num b ≤ num l) : Calls Try.prog 77 #[.slice (some ⟨g, 0, none⟩) n cap, v2] w (HfP w base g cap (num l - num b)) := by
  have hlen := own_len hown
  have hcap := own_cap hown
  have hyw := hy w (grown_refl _ _)
  obtain ⟨A2, c2, e2, _, _, _⟩ := hyw
  obtain ⟨lb, hlb⟩ : ∃ q, q = b.length := ⟨_, rfl⟩
  rw [← hlb] at e2
  have HLb := Lib.hid (fun W (h : w.grownBy W (some g)) (j : Nat) (hj : j ≤ 1000000) => show Calls Try.prog 86 #[.slice A2 lb c2, .int .i64 (j : Int)] W fun e w' => e = .returned (.int .u64 (at0 b j : Nat)) ∧ W = w' by
    obtain ⟨A, c, e, _, _, hr⟩ := hy W h
    rw [e2, ← hlb] at e
    injection e with e3 e4 e5
    subst e3 e5
    rw [hlb]
    exact rlimb_any A2 c2 b j W.heap.size W hr (by omega) (by omega) hb)
  subst e2
  obtain ⟨V, hV⟩ : ∃ v, v = num l - num b := ⟨_, rfl⟩
  have HV := Lib.hid hV; have HO := Lib.hid ho; have HLEN := Lib.hid hlen; have HOb := Lib.hid hb; have HLE := Lib.hid hle
  have hVn : V < 4294967296 ^ n := by have := num_lt l ho; rw [hlen] at this; omega
  have HVN := Lib.hid hVn
  rw [← hV]
  clear hV ho hVn hlen hb hle hlb hbl hy
  go_enter Try.func77, Try.ntmps77
  go_wp2
  go_loopw [5, 6] (fun s5 s6 wr => ∃ i : Nat, i ≤ n ∧ s6 = .int .i64 ((i : Nat) : Int) ∧ s5 = .int .u64 ((brw (num l) (num b) (4294967296 ^ i) : Nat) : Int) ∧ wr.ownsRow base 60 1 (.slice (some ⟨g, 0, none⟩) n cap) n (Lc (tkL l V i)) ∧ w.grownBy wr (some g)) (fun _ s6 _ => n - (intOf s6).toNat)
  case atStart => exact ⟨0, Nat.zero_le _, rfl, by simp [brw_zero], by simpa [tkL, digs] using hown, grown_refl _ _⟩
  case round =>
    clear hown
    obtain ⟨i, hi, rfl, rfl, hown, hg⟩ := hrel
    rcases Nat.lt_or_ge i n with hlt | hge
    · have hil : i < l.length := by rw [HLEN.out]; exact hlt
      have hcell := own_cell hown i (by rw [tk_len l V i (by omega)]; exact hil)
      rw [tk_at l V i hil] at hcell
      have hfr := hown.frozenAt i
      have CY := Lib.hid (fun n' => HLb.out (wr.drewN n') (grown_drew hg n') i (by omega))
      have hD : 0 < 4294967296 ^ i := Nat.pow_pos (by omega)
      have hdig := brw_digit (num l) (num b) (4294967296 ^ i) hD HLE.out
      have hnx := brw_next (num l) (num b) (4294967296 ^ i) hD
      rw [← at0_num l HO.out, ← at0_num b HOb.out, at0_in l i hil] at hdig hnx
      rw [← Nat.pow_succ] at hnx
      rw [← HV.out] at hdig
      have hcl := brw_le (num l) (num b) (4294967296 ^ i)
      have hz := HO.out.get i hil
      have hyl := at0_lt b HOb.out i
      obtain ⟨x, ex⟩ : ∃ z, z = l[i] := ⟨_, rfl⟩
      obtain ⟨y, ey⟩ : ∃ y, y = at0 b i := ⟨_, rfl⟩
      obtain ⟨k, ek⟩ : ∃ k, k = brw (num l) (num b) (4294967296 ^ i) := ⟨_, rfl⟩
      rw [← ex] at hcell hdig hz hnx
      rw [← ey] at CY hdig hyl hnx
      rw [← ek] at hdig hnx hcl ⊢
      have hs0 : 0 ≤ (x : Int) + 4294967296 := by omega
      have hs5 : (x : Int) + 4294967296 - (y : Int) ≤ 8589934591 := by omega
      have hs6 : (x : Int) + 4294967296 - (y : Int) - (k : Int) ≤ 8589934591 := by omega
      have hs7 : 0 ≤ (x : Int) + 4294967296 - (y : Int) := by omega
      have hs8 : 0 ≤ 1 - ((x : Int) + 4294967296 - (y : Int) - (k : Int)) / 4294967296 := by omega
      have hs9 : 1 - ((x : Int) + 4294967296 - (y : Int) - (k : Int)) / 4294967296 ≤ 1 := by omega
      have hs1 : (x : Int) + 4294967296 ≤ 8589934591 := by omega
      have hs3 : 0 ≤ (x : Int) + 4294967296 - (y : Int) - (k : Int) := by omega
      obtain ⟨r, er⟩ : ∃ r, r = (x + 4294967296 - y - k) % 4294967296 := ⟨_, rfl⟩
      rw [← er] at hdig
      have hput := own_put hown i r
      rw [tk_step l V i r hil hdig] at hput
      have HP := Lib.hid (And.intro hput (grown_put hg i (.int .u32 ((r : Nat) : Int))))
      have HR := Lib.hid (show ((r : Nat) : Int) = ((x : Int) + 4294967296 - (y : Int) - (k : Int)) % 4294967296 by omega)
      have HNX := Lib.hid (show 1 - ((x : Int) + 4294967296 - (y : Int) - (k : Int)) / 4294967296 = ((brw (num l) (num b) (4294967296 ^ (i + 1)) : Nat) : Int) by rw [← hnx]; omega)
      have HIN := Lib.hid (show i + 1 ≤ n by omega)
      have hiI : (i : Int) < (n : Int) := by omega
      clear hput hdig hnx er ex ey ek hown hg hz hyl hcl hil hlt hD
      go_wp2
      go_quiet (with_reducible exact quiet_eq (CY.out _))
      go_wp2
      go_roundw
      case rel =>
        obtain ⟨p1, p2⟩ := HP.out
        refine ⟨i + 1, HIN.out, by go_num, by rw [HNX.out], ?_, ?_⟩
        · rw [← HR.out]; exact p1
        · rw [← HR.out]; exact grown_drew p2 _
      case measure => simp only [intOf]; omega
    · have hiE : i = n := by omega
      subst hiE
      rw [show tkL l V i = digs i V by unfold tkL; rw [List.drop_of_length_le (by rw [HLEN.out]; exact Nat.le_refl _), List.append_nil]] at hown
      have HOW := Lib.hid hown; have HG := Lib.hid hg
      have hdz := dropz_digs i (V) HVN.out
      have HDZ := Lib.hid hdz
      obtain ⟨D, hD⟩ : ∃ d, d = digs i (V) := ⟨_, rfl⟩
      have hDl : D.length = i := by rw [hD, digs_len]
      rw [← hD] at HOW HDZ
      have HDL := Lib.hid hDl
      clear hown hg hge hi hdz hD hDl
      go_wp2
      go_loop [8] (fun s3 => ∃ k : Nat, k ≤ i ∧ s3 = .int .i64 k ∧ dropz (D.take k) = dropz D) (fun s3 => (intOf s3).toNat)
      case atStart => exact ⟨i, Nat.le_refl _, rfl, by rw [List.take_of_length_le (by rw [HDL.out]; exact Nat.le_refl _)]⟩
      case round =>
        obtain ⟨k, hk, rfl, hd⟩ := hrel
        have HD := Lib.hid hd
        clear hd
        rcases Nat.eq_zero_or_pos k with h0 | h0
        · subst h0
          have hz : lim (V) = D.take 0 := by rw [← HDZ.out, ← HD.out]; simp [dropz]
          have HF := Lib.hid (show wr.ownsRow base 60 1 (.slice (some ⟨g, 0, none⟩) 0 cap) 0 (Lc (D.take 0)) from own_cut HOW.out (Nat.zero_le _))
          have HZ := Lib.hid hz
          clear hz
          go_wp2
          go_ret
          unfold HfP
          rw [HZ.out]
          exact ⟨rfl, HF.out, HG.out⟩
        · obtain ⟨j, rfl⟩ : ∃ j, k = j + 1 := ⟨k - 1, by omega⟩
          have hj : j < D.length := by have := HDL.out; omega
          have hcell := own_cell HOW.out j hj
          have hz : ((j : Int) + 1) > 0 := by omega
          have hz1 : ((j + 1 : Nat) : Int) - 1 = (j : Int) := by omega
          have hjN : (j : Int) < (i : Int) := by omega
          by_cases hx : D[j] = 0
          · have e : dropz (D.take j) = dropz D := by rw [← HD.out, dropz_step D j hj hx]
            have E := Lib.hid e
            rw [hx] at hcell
            clear e hx hj
            go_wp2
            go_round
            case rel => exact ⟨j, by omega, by go_num, E.out⟩
            case measure => simp only [intOf]; omega
          · have hz2 : lim (V) = D.take (j + 1) := by rw [← HDZ.out, ← HD.out, dropz_stop D j hj hx]
            have HZ := Lib.hid hz2
            have HTL := Lib.hid (show (D.take (j + 1)).length = j + 1 by rw [List.length_take]; omega)
            have HF := Lib.hid (own_cut HOW.out (show j + 1 ≤ i by omega))
            have hne : (((D[j] : Nat) : Int) == 0) = false := by rw [beq_eq_false_iff_ne]; omega
            generalize D[j] = x at hcell hne
            clear hx hz2 hj
            go_wp2
            go_ret
            unfold HfP
            rw [HZ.out, HTL.out]
            exact ⟨by go_num, HF.out, HG.out⟩
end Go.Proofs.Ytbfhilbagojdnaa
namespace Go.Proofs.Ytbfhilbagojdnaa
open Go.RowKit Wr Go.Proofs.Ytbfhilbagojdnaa.Nm
set_option linter.unusedVariables false
set_option maxRecDepth 100000

theorem rplus_lim {v1 v2 : Value} {x y : Nat} {w : World} (h1 : Sl w v1 (lim x)) (h2 : Sl w v2 (lim y)) (hl : (lim x).length ≤ 100000) (hl2 : (lim y).length ≤ 100000) : Calls Try.prog 78 #[v1, v2] w (SlP w (x + y)) := by
  have h := rplus_any h1 h2 (lim_ok x) (lim_ok y) hl hl2
  rw [num_lim, num_lim] at h; exact h
theorem rminus_lim {v1 v2 : Value} {x y : Nat} {w : World} (h1 : Sl w v1 (lim x)) (h2 : Sl w v2 (lim y)) (hle : y ≤ x) (hl : (lim x).length ≤ 100000) (hl2 : (lim y).length ≤ 100000) : Calls Try.prog 99 #[v1, v2] w (SlP w (x - y)) := by
  have h := rminus_any h1 h2 (lim_ok x) (lim_ok y) hl hl2 (by rw [num_lim, num_lim]; exact hle)
  rw [num_lim, num_lim] at h; exact h
theorem rtimes_lim {v1 v2 : Value} {x y : Nat} {w : World} (h1 : Sl w v1 (lim x)) (h2 : Sl w v2 (lim y)) (hl : (lim x).length ≤ 40000) (hl2 : (lim y).length ≤ 40000) : Calls Try.prog 53 #[v1, v2] w (SlP w (x * y)) := by
  have h := rtimes_any h1 h2 (lim_ok x) (lim_ok y) hl hl2
  rw [num_lim, num_lim] at h; exact h
def OwS (w : World) (x : Nat) : Ending → World → Prop := OwP w (lim x)
theorem rplus_lio {v1 v2 : Value} {x y : Nat} {w : World} (h1 : Sl w v1 (lim x)) (h2 : Sl w v2 (lim y)) (hl : (lim x).length ≤ 100000) (hl2 : (lim y).length ≤ 100000) : Calls Try.prog 78 #[v1, v2] w (OwP w (lim (x + y))) := by
  have h := rplus_own h1 h2 (lim_ok x) (lim_ok y) hl hl2
  rw [num_lim, num_lim] at h; exact h
theorem rminus_lio {v1 v2 : Value} {x y : Nat} {w : World} (h1 : Sl w v1 (lim x)) (h2 : Sl w v2 (lim y)) (hle : y ≤ x) (hl : (lim x).length ≤ 100000) (hl2 : (lim y).length ≤ 100000) : Calls Try.prog 99 #[v1, v2] w (OwP w (lim (x - y))) := by
  have h := rminus_own h1 h2 (lim_ok x) (lim_ok y) hl hl2 (by rw [num_lim, num_lim]; exact hle)
  rw [num_lim, num_lim] at h; exact h
theorem own_put_far {w : World} {base g k n : Nat} {v u : Value} {xs : List Value} (h : w.ownsRow base 60 1 v n xs) (hg : g < base) : (w.setCell ⟨g, k, none⟩ u).ownsRow base 60 1 v n xs :=
  ownsRow_setCell_below h hg u
theorem rcompare_lim {v1 v2 : Value} {x y : Nat} {w : World} (h1 : Sl w v1 (lim x)) (h2 : Sl w v2 (lim y)) (hl : (lim x).length ≤ 1000000) (hl2 : (lim y).length ≤ 1000000) : Calls Try.prog 76 #[v1, v2] w fun e w' => e = .returned (.int .i64 (ord x y)) ∧ w = w' := by
  have h := rcompare_any h1 h2 (lim_ok x) (lim_ok y) hl hl2
  rw [num_lim, num_lim] at h; exact h
theorem and1_u32 (a : Nat) (ha : a < 4294967296) : bits BinOp.and IntKind.u32 ((a : Nat) : Int) 1 = ((a % 2 : Nat) : Int) := by
  have h := u32_and_nat a 1 ha (by omega)
  rw [Nat.and_one_is_mod] at h; exact h
def QuR (w : World) (X Y n : Nat) (s7 s8 : Value) (wr : World) : Prop := ∃ t : Nat, t ≤ 32 * n ∧ s8 = .int .i64 ((t : Int) - 1) ∧ wr.ownsRow (w.heap.size + 1) 60 1 s7 (lim (X / 2 ^ t % Y)).length (Lc (lim (X / 2 ^ t % Y))) ∧ Blk wr w.heap.size 60 (Lc (digs n (X / 2 ^ t / Y * 2 ^ t))) ∧ Below w.heap.size w wr
set_option maxHeartbeats 4000000 in
theorem quo_any {v1 v2 : Value} {X Y : Nat} {w : World} (h1 : Sl w v1 (lim X)) (h2 : Sl w v2 (lim Y)) (hY : 0 < Y) (hl : (lim X).length ≤ 40000) (hl2 : (lim Y).length ≤ 40000) : Calls Try.prog 80 #[v1, v2] w (DvP w X Y) := by
  have S2 := Lib.hid h2
  obtain ⟨A, c, rfl, hc, hn, hr⟩ := h1
  obtain ⟨n, hn0⟩ : ∃ m, m = (lim X).length := ⟨_, rfl⟩
  have hXn : X < 4294967296 ^ n := lim_len.1 (by omega)
  have HN := Lib.hid hn0; have HXN := Lib.hid hXn; have HR := Lib.hid hr; have HL2 := Lib.hid hl2
  rw [← hn0] at hl ⊢
  have hmk := mk22 n (by omega)
  have hq : X / 2 ^ (32 * n) = 0 := Nat.div_eq_of_lt (by rw [← B_two]; exact hXn)
  have hst : QuR w X Y n (.slice none 0 0) (.int .i64 (32 * (n : Int) - 1)) (w.alloc (.cells (Lc (List.replicate n 0)).toArray 60)) :=
    ⟨32 * n, Nat.le_refl _, by simp, by rw [hq, Nat.zero_mod, lim_zero]; exact World.ownsRow_nil _ _ _ _, by rw [hq, Nat.zero_div, Nat.zero_mul, digs_zero]; exact Blk.new w 60 (Lc (List.replicate n 0)), (Below.refl _ _).alloc (Nat.le_refl _) _⟩
  have HST := Lib.hid hst
  have HY := Lib.hid hY
  clear hn0 hXn hr hn hc h2 hl2 hq hst hY
  go_enter Try.func80, Try.ntmps80
  go_wp2
  clear hmk
  go_loopw [7, 8] (fun s7 s8 wr => QuR w X Y n s7 s8 wr) (fun _ s8 _ => (intOf s8 + 1).toNat)
  case atStart => exact HST.out
  case round =>
    clear HST
    obtain ⟨t, ht, rfl, hs, hblk, hbel⟩ := hrel
    rcases Nat.eq_zero_or_pos t with h0 | h0
    · subst h0
      rw [Nat.pow_zero, Nat.div_one, Nat.mul_one] at hblk
      rw [Nat.pow_zero, Nat.div_one] at hs
      have hqn : X / Y < 4294967296 ^ n := Nat.lt_of_le_of_lt (Nat.div_le_self _ _) HXN.out
      have hdz := dropz_digs n (X / Y) hqn
      have hlen := digs_len n (X / Y)
      have hSL : Sl wr (.slice (some ⟨w.heap.size, 0, none⟩) n n) (digs n (X / Y)) := ⟨_, n, by rw [hlen], by rw [hlen]; exact Nat.le_refl _, (fun e => by cases e), (Rd.of_blk0 hblk).more hblk.lt⟩
      have HTR := Lib.hid (trim_any hSL (by rw [hlen]; omega))
      rw [hdz] at HTR
      have HS := Lib.hid (own_sl hs); have HBE := Lib.hid hbel
      clear hqn hdz hlen hSL hs hbel hblk
      go_wp2_with fail
      refine HTR.out.mono ?_
      rintro e w2 ⟨v, rfl, hs1, hb⟩
      have HS1 := Lib.hid hs1; have HS2 := Lib.hid (HS.out.below hb); have HB2 := Lib.hid (below_step HBE.out hb)
      clear hs1 hb
      go_wp2_with fail
      go_ret2
      exact ⟨_, _, rfl, HS1.out, HS2.out, HB2.out⟩
    · obtain ⟨s, rfl⟩ : ∃ s, t = s + 1 := ⟨t - 1, by omega⟩
      rw [show ((s + 1 : Nat) : Int) - 1 = (s : Int) by omega]
      obtain ⟨k, hk⟩ : ∃ k, k = s / 32 := ⟨_, rfl⟩
      obtain ⟨e, he⟩ : ∃ e, e = s % 32 := ⟨_, rfl⟩
      have hkI : (s : Int) / 32 = (k : Int) := by omega
      have heI : (s : Int) % 32 = (e : Int) := by omega
      have he32 : e < 32 := by omega
      have hse : s = 32 * k + e := by omega
      have hkn : k < n := by omega
      have hrA : Rd wr w.heap.size A (Lc (lim X)) := HR.out.below hbel
      obtain ⟨g, o, rfl, hg, hcell⟩ := limb_cell hrA k (by rw [← HN.out]; exact hkn)
      have hbit := bit_at X k e he32
      rw [← hse] at hbit
      have hxl := at0_num (lim X) (lim_ok X) k
      rw [num_lim, at0_in _ k (by rw [← HN.out]; exact hkn)] at hxl
      rw [← hxl] at hbit
      have hz := (lim_ok X).get k (by rw [← HN.out]; exact hkn)
      obtain ⟨z, ez⟩ : ∃ z, z = (lim X)[k]'(by rw [← HN.out]; exact hkn) := ⟨_, rfl⟩
      rw [← ez] at hbit hcell hz
      obtain ⟨b, hb⟩ : ∃ b, b = X / 2 ^ s % 2 := ⟨_, rfl⟩
      rw [← hb] at hbit
      obtain ⟨zq, hzq⟩ : ∃ q, q = z / 2 ^ e := ⟨_, rfl⟩
      rw [← hzq] at hbit
      have hzql : zq < 4294967296 := by rw [hzq]; exact Nat.lt_of_le_of_lt (Nat.div_le_self _ _) hz
      have hSHR := (show (z : Int) / 2 ^ e = (zq : Int) by rw [hzq]; simp)
      have hAND := and1_u32 zq hzql
      rw [hbit] at hAND
      obtain ⟨hq1, hq2⟩ := quoS_step X Y s HY.out
      have hQ := quo_put n k e s (X / 2 ^ (s + 1) / Y) _ hse he32 hkn rfl
      obtain ⟨r, hr⟩ : ∃ r, r = X / 2 ^ (s + 1) % Y := ⟨_, rfl⟩
      rw [← hb, ← hr] at hq1 hq2
      rw [← hr] at hs
      have hrY : r < Y := by rw [hr]; exact Nat.mod_lt _ HY.out
      obtain ⟨Q, hQQ⟩ : ∃ q, q = X / 2 ^ (s + 1) / Y * 2 ^ (s + 1) := ⟨_, rfl⟩
      rw [← hQQ] at hq1 hQ hblk
      obtain ⟨hor, hzl, hset⟩ := hQ
      have hc2 : wr.cell? ⟨w.heap.size, k, none⟩ = some (.int .u32 ((Q / 4294967296 ^ k % 4294967296 : Nat) : Int)) := by rw [hblk.cell, Lc_get _ _ (by rw [digs_len]; exact hkn), digs_get n Q k hkn]
      obtain ⟨zo, hzo⟩ : ∃ q, q = Q / 4294967296 ^ k % 4294967296 := ⟨_, rfl⟩
      rw [← hzo] at hor hzl hset hc2
      have hb2 : b < 2 := by rw [hb]; exact Nat.mod_lt _ (by omega)
      have hrl : (lim r).length ≤ 40000 := Nat.le_trans (lim_mono (Nat.le_of_lt hrY)) HL2.out
      have hbl : (lim b).length ≤ 1 := lim_len.2 (by omega)
      have hr2 : (lim (r + r)).length ≤ 40001 := lim_add hrl hrl
      have hr3 : (lim (r + r + b)).length ≤ 40002 := lim_add hr2 (Nat.le_trans hbl (by omega))
      have hYl := HL2.out
      have HP1 := Lib.hid (rplus_lim (own_sl hs) (own_sl hs) (by omega) (by omega))
      have HWh := Lib.hid (fun W => whole_any b W (by omega))
      have HP2 := Lib.hid (fun W (v : Value) (hv : Sl W v (lim (r + r))) (v' : Value) (hv' : Sl W v' (lim b)) => rplus_lio hv hv' (by omega) (by omega))
      have HCm := Lib.hid (fun W (v : Value) (hv : Sl W v (lim (r + r + b))) (hv' : Sl W v2 (lim Y)) => rcompare_lim hv hv' (by omega) (by omega))
      have HMn := Lib.hid (fun (hle : Y ≤ r + r + b) W (v : Value) (hv : Sl W v (lim (r + r + b))) (hv' : Sl W v2 (lim Y)) => rminus_lio hv hv' hle (by omega) (by omega))
      rw [Nat.two_mul] at hq1 hq2
      have HQ1 := Lib.hid hq1; have HQ2 := Lib.hid hq2; have HSET := Lib.hid hset; have HZL := Lib.hid hzl; have HOR := Lib.hid hor
      have HBK := Lib.hid hblk; have HBE := Lib.hid hbel
      have HTS := Lib.hid (show s ≤ 32 * n by omega)
      have HZO := Lib.hid hzo
      obtain ⟨pe, hpe⟩ : ∃ p, p = 2 ^ e := ⟨_, rfl⟩
      have hpl : pe ≤ 2147483648 := by
        rw [hpe]
        have e31 : (2 : Nat) ^ 31 = 2147483648 := by decide
        rw [← e31]; exact Nat.pow_le_pow_right (by omega) (by omega)
      have HSHL := Lib.hid (show IntKind.u32.wrap ((2 : Int) ^ e) = (pe : Int) by rw [hpe]; exact shl_one e (by omega))
      rw [← hpe] at HOR HZL HSET
      have HOI := Lib.hid (show bits BinOp.or IntKind.u32 (zo : Int) (pe : Int) = ((zo + pe : Nat) : Int) by
        have hzz := HZL.out
        rw [u32_or_nat _ _ (by omega) (by omega), HOR.out])
      clear hbit hxl hb hzq hQQ hr hk he ez hse hrl hbl hr2 hr3 hYl hq1 hq2 hset hzl hor hblk hbel hs hrY hpe hzo hpl hc2
      go_wp2_with fail
      refine HP1.out.mono ?_
      rintro e1 w1 ⟨u1, rfl, hs1, hb1⟩
      have S1 := Lib.hid hs1; have B1 := Lib.hid (below_step HBE.out hb1); have K1 := Lib.hid (HBK.out.below hb1 HBK.out.lt)
      clear hs1 hb1 hcell hSHR hAND HP1 HBE HBK
      go_wp2_with fail
      refine (HWh.out _).mono ?_
      rintro e1 w2 ⟨u2, rfl, hs2, hb2⟩
      have S1b := Lib.hid (S1.out.below hb2); have S2b := Lib.hid hs2; have B2 := Lib.hid (below_step B1.out hb2); have K2 := Lib.hid (K1.out.below hb2 K1.out.lt)
      clear hs2 hb2 HWh S1 B1 K1
      go_wp2_with fail
      refine (HP2.out _ _ S1b.out _ S2b.out).mono ?_
      rintro e1 w3 ⟨u3, rfl, hs3, hb3⟩
      have O3 := Lib.hid (own_mono hs3 (Nat.le_trans (Nat.succ_le_of_lt K2.out.lt) (Nat.le_refl _))); have S3 := Lib.hid (own_sl hs3); have B3 := Lib.hid (below_step B2.out hb3); have K3 := Lib.hid (K2.out.below hb3 K2.out.lt)
      have S2w := Lib.hid (S2.out.below (below_step B2.out hb3))
      clear hs3 hb3 HP2 S1b S2b B2 K2
      obtain ⟨o1, ho1⟩ : ∃ o, o = ord (r + r + b) Y := ⟨_, rfl⟩
      have HC1 := Lib.hid (HCm.out _ _ S3.out S2w.out)
      rw [← ho1] at HC1
      by_cases hc : Y ≤ r + r + b
      · have ho : 0 ≤ o1 := by rw [ho1]; unfold ord; rw [if_neg (by omega)]; split <;> omega
        have HM := Lib.hid (HMn.out hc _ _ S3.out S2w.out)
        have e1 := HQ1.out
        have e2 := HQ2.out
        rw [if_pos hc] at e1 e2
        have HE1 := Lib.hid e1; have HE2 := Lib.hid e2
        clear ho1 hc e1 e2 HCm HMn HQ1 HQ2
        go_wp2_with (go_at_call 76; (with_reducible refine HC1.out.mono ?_); rintro e w' ⟨rfl, rfl⟩)
        refine HM.out.mono ?_
        rintro e1 w4 ⟨u4, rfl, hs4, hb4⟩
        have O4 := Lib.hid (own_mono hs4 (Nat.succ_le_of_lt K3.out.lt)); have B4 := Lib.hid (below_step B3.out hb4)
        have hk4 := K3.out.below hb4 K3.out.lt
        have hc4 : w4.cell? ⟨w.heap.size, k, none⟩ = some (.int .u32 ((zo : Nat) : Int)) := by
          rw [hk4.cell, Lc_get _ _ (by rw [digs_len]; exact hkn), digs_get n Q k hkn, HZO.out]
        have hf4 := hk4.frozen k
        have K4 := Lib.hid hk4
        have hSHL := HSHL.out
        have hOI := HOI.out
        clear hs4 hb4 hk4 HM HC1 S3 B3 K3
        have hput := K4.out.put k (.int .u32 ((zo + pe : Nat) : Int))
        rw [Lc_set, ← HSET.out] at hput
        have HPUT := Lib.hid hput
        have HBP := Lib.hid (B4.out.setCell (p := ⟨w.heap.size, k, none⟩) (Nat.le_refl _) (.int .u32 ((zo + pe : Nat) : Int)))
        have HSL := Lib.hid (own_put_far (k := k) (u := .int .u32 ((zo + pe : Nat) : Int)) O4.out (Nat.lt_succ_self _))
        clear hput
        go_wp2_with fail
        go_roundw
        case rel => exact ⟨s, HTS.out, rfl, by rw [HE2.out]; exact HSL.out, by rw [HE1.out]; exact HPUT.out, HBP.out⟩
        case measure => simp only [intOf]; omega
      · have ho : ¬ (0 ≤ o1) := by rw [ho1]; unfold ord; rw [if_pos (by omega)]; omega
        have e1 := HQ1.out
        have e2 := HQ2.out
        rw [if_neg hc, Nat.add_zero] at e1
        rw [if_neg hc, Nat.sub_zero] at e2
        have HE1 := Lib.hid e1; have HE2 := Lib.hid e2
        clear ho1 hc e1 e2 HCm HMn HQ1 HQ2
        go_wp2_with (go_at_call 76; (with_reducible refine HC1.out.mono ?_); rintro e w' ⟨rfl, rfl⟩)
        go_roundw
        case rel => exact ⟨s, HTS.out, rfl, by rw [HE2.out]; exact O3.out, by rw [HE1.out]; exact K3.out, B3.out⟩
        case measure => simp only [intOf]; omega
end Go.Proofs.Ytbfhilbagojdnaa
namespace Go.Proofs.Ytbfhilbagojdnaa
open Go.RowKit Wr Go.Proofs.Ytbfhilbagojdnaa.Nm
set_option linter.unusedVariables false
set_option maxRecDepth 100000

theorem rone_any {v : Value} {l : List Nat} {w : World} (h : Sl w v l) (hl : l.length ≤ 1000000) : Calls Try.prog 37 #[v] w fun e w' => e = .returned (.bool (decide (l = [1]))) ∧ w = w' := by
  obtain ⟨A, c, rfl, hcc, hnn, hr⟩ := h
  by_cases h1 : l.length = 1
  · obtain ⟨x, rfl⟩ := List.length_eq_one_iff.1 h1
    obtain ⟨g, o, rfl, hg, hc⟩ := limb_cell hr 0 (by simp)
    simp only [List.getElem_cons_zero, Nat.add_zero] at hc
    have e : decide ([x] = [1]) = ((x : Int) == 1) := by
      rw [Bool.eq_iff_iff]; simp; omega
    rw [e]
    clear hr e h1 hl hcc hnn
    show Calls Try.prog 37 #[.slice (some ⟨g, o, none⟩) 1 c] w _
    go_enter Try.func37, Try.ntmps37
    go_wp2
    go_ret
    exact ⟨rfl, rfl⟩
  · have e : decide (l = [1]) = false := by
      apply decide_eq_false; intro e; rw [e] at h1; exact h1 rfl
    rw [e]
    have hn : ((l.length : Int) == 1) = false := by rw [beq_eq_false_iff_ne]; omega
    generalize l.length = n at hl hn
    clear hr e h1 hcc hnn
    go_enter Try.func37, Try.ntmps37
    go_wp2
    go_ret
    exact ⟨rfl, rfl⟩
theorem rone_lim {v : Value} {x : Nat} {w : World} (h : Sl w v (lim x)) (hl : (lim x).length ≤ 1000000) (b : Bool) (hb : b = decide (x = 1)) : Calls Try.prog 37 #[v] w fun e w' => e = .returned (.bool b) ∧ w = w' := by
  have h2 := rone_any h hl
  rw [hb]
  have e : decide (lim x = [1]) = decide (x = 1) := by rw [Bool.eq_iff_iff]; simp [lim_eq_one]
  rwa [e] at h2
theorem rodd_lim {v : Value} {x : Nat} {w : World} (h : Sl w v (lim x)) (hl : (lim x).length ≤ 1000000) (b : Bool) (hb : b = decide (x % 2 = 1)) : Calls Try.prog 74 #[v] w fun e w' => e = .returned (.bool b) ∧ w = w' := by
  have h2 := odd_any h (lim_ok x) hl
  rw [num_lim] at h2; rw [hb]; exact h2
/-- Two own rows, apart from each other. -/
structure Pq (w : World) (B : Nat) (va vb : Value) (x y : Nat) : Prop where
  oa : w.ownsRow B 60 1 va (lim x).length (Lc (lim x))
  ob : w.ownsRow B 60 1 vb (lim y).length (Lc (lim y))
  ne : ∀ g, va.ownBlock = some g → vb.ownBlock ≠ some g
theorem Pq.swap {w : World} {B : Nat} {va vb : Value} {x y : Nat} (h : Pq w B va vb x y) : Pq w B vb va y x := ⟨h.ob, h.oa, fun g h1 h2 => h.ne g h2 h1⟩
def HqA (w : World) (B : Nat) (vb : Value) (x y : Nat) (e : Ending) (w' : World) : Prop := ∃ v, e = .returned v ∧ Pq w' B v vb x y ∧ Below B w w'
def HqB (w : World) (B : Nat) (va : Value) (x y : Nat) (e : Ending) (w' : World) : Prop := ∃ v, e = .returned v ∧ Pq w' B va v x y ∧ Below B w w'
theorem grown_base {w w' : World} {g B : Nat} (h : w.grownBy w' (some g)) (hg : B ≤ g) (hB : B ≤ w.heap.size) : Below B w w' :=
  ⟨h.os, h.tape, h.output, h.size, fun k hk => h.block k (by omega) (by intro e; injection e with e; omega)⟩
theorem Pq.halfA {w : World} {B : Nat} {va vb : Value} {x y : Nat} (h : Pq w B va vb x y) (hx : 0 < x) (hl : (lim x).length ≤ 100000) : Calls Try.prog 75 #[va] w (HqA w B vb (x / 2) y) := by
  obtain ⟨g, cap, e, _, _⟩ := h.oa.form (pos_lim hx)
  have hlt := h.oa.lt g (by rw [e]; rfl)
  have hoa := h.oa
  subst e
  have hh := half_own hoa (lim_ok x) (by omega)
  rw [num_lim] at hh
  refine hh.mono ?_
  rintro e w' ⟨rfl, ho, hg⟩
  refine ⟨_, rfl, ⟨ho, h.ob.kept hg ?_, ?_⟩, grown_base hg hlt.1 (by omega)⟩
  · exact Or.inr (h.ne g rfl)
  · intro g2 h2
    exact h.ne g2 h2
theorem Pq.halfB {w : World} {B : Nat} {va vb : Value} {x y : Nat} (h : Pq w B va vb x y) (hy : 0 < y) (hl : (lim y).length ≤ 100000) : Calls Try.prog 75 #[vb] w (HqB w B va x (y / 2)) :=
  (h.swap.halfA hy hl).mono fun _ _ ⟨v, e, hp, hb⟩ => ⟨v, e, hp.swap, hb⟩
theorem Pq.takeB {w : World} {B : Nat} {va vb : Value} {x y : Nat} (h : Pq w B va vb x y) (hy : 0 < y) (hle : x ≤ y) (hl : (lim y).length ≤ 100000) (hl2 : (lim x).length ≤ 100000) : Calls Try.prog 77 #[vb, va] w (HqB w B va x (y - x)) := by
  obtain ⟨g, cap, e, _, _⟩ := h.ob.form (pos_lim hy)
  have hlt := h.ob.lt g (by rw [e]; rfl)
  have hob := h.ob
  have hne : va.ownBlock ≠ some g := fun h2 => h.ne g h2 (by rw [e]; rfl)
  subst e
  have hh := take_own (v2 := va) (b := lim x) hob (lim_ok y) (by omega) (fun W hW => own_sl (h.oa.kept hW (Or.inr hne))) (lim_ok x) (by omega) (by rw [num_lim, num_lim]; exact hle)
  rw [num_lim, num_lim] at hh
  refine hh.mono ?_
  rintro e w' ⟨rfl, ho, hg⟩
  exact ⟨_, rfl, ⟨h.oa.kept hg (Or.inr hne), ho, fun g2 h2 h3 => h.ne g2 h2 h3⟩, grown_base hg hlt.1 (by omega)⟩
def Cm1 (w : World) (X Y k : Nat) (s5 s6 s7 : Value) (wr : World) : Prop := ∃ t x y : Nat, s5 = .int .i64 ((t : Nat) : Int) ∧ Pq wr w.heap.size s6 s7 x y ∧ 0 < x ∧ 2 ^ t * x = X ∧ 2 ^ t * y = Y ∧ x + y = k ∧ Below w.heap.size w wr
def Cm2 (w : World) (X Y : Nat) (s5 s6 s7 : Value) (wr : World) : Prop := ∃ t x y : Nat, s5 = .int .i64 ((t : Nat) : Int) ∧ Pq wr w.heap.size s6 s7 x y ∧ 0 < x ∧ 2 ^ t * x = X ∧ 2 ^ t * y = Y ∧ (y = 0 ∨ x % 2 = 1 ∨ y % 2 = 1) ∧ Below w.heap.size w wr
def Cm3 (w : World) (G M k : Nat) (s6 s7 : Value) (wr : World) : Prop := ∃ x y : Nat, Pq wr w.heap.size s6 s7 x y ∧ 0 < x ∧ Nat.gcd x y = G ∧ x ≤ M ∧ y ≤ M ∧ (y = 0 ∨ x % 2 = 1 ∨ y % 2 = 1) ∧ x + y = k ∧ Below w.heap.size w wr
set_option maxHeartbeats 4000000 in
theorem rcommon_any {v1 v2 : Value} {X Y : Nat} {w : World} (h1 : Sl w v1 (lim X)) (h2 : Sl w v2 (lim Y)) (hX : 0 < X) (hl : (lim X).length ≤ 40000) (hl2 : (lim Y).length ≤ 40000) : Calls Try.prog 38 #[v1, v2] w (SlP w (Nat.gcd X Y)) := by
  have T1 := Lib.hid (trim_own h1 (by omega))
  have T2 := Lib.hid (fun W (h : Below w.heap.size w W) => trim_own (h2.below h) (by omega))
  rw [dropz_lim] at T1 T2
  have HLX := Lib.hid hl; have HLY := Lib.hid hl2; have HX := Lib.hid hX
  clear h1 h2 hl hl2 hX
  go_enter Try.func38, Try.ntmps38
  go_wp2_with fail
  refine T1.out.mono ?_
  rintro e w1 ⟨va, rfl, ho1, hb1⟩
  have O1 := Lib.hid ho1; have B1 := Lib.hid hb1
  have T2a := Lib.hid (T2.out _ hb1)
  clear ho1 hb1 T1 T2
  go_wp2_with fail
  refine T2a.out.mono ?_
  rintro e w2 ⟨vb, rfl, ho2, hb2⟩
  have B2 := Lib.hid (below_step B1.out hb2)
  have HP := Lib.hid (show Pq w2 w.heap.size va vb X Y from ⟨own_below O1.out hb2, own_mono ho2 B1.out.size, fun g h1 h2 => by
    have a1 := (O1.out.lt g h1).2
    have a2 := (ho2.lt g h2).1
    omega⟩)
  clear ho2 hb2 T2a O1 B1
  go_upto_block 0 with fail
  go_cut [5, 6, 7] (fun s5 s6 s7 wx => Cm2 w X Y s5 s6 s7 wx)
  case first =>
    obtain ⟨K, hK⟩ : ∃ k, k = X + Y := ⟨_, rfl⟩
    go_wp2_with fail
    go_loopg [5, 6, 7] K (fun k s5 s6 s7 wr => Cm1 w X Y k s5 s6 s7 wr)
    case atStart => exact ⟨0, X, Y, rfl, HP.out, HX.out, by omega, by omega, hK.symm, B2.out⟩
    case round =>
      clear HP B2 hK
      obtain ⟨t, x, y, rfl, hp, hx0, hX, hY, hk, hbel⟩ := hrel
      have hpt := Nat.two_pow_pos t
      have hxX : x ≤ X := by rw [← hX]; exact Nat.le_mul_of_pos_left x hpt
      have hyY : y ≤ Y := by rw [← hY]; exact Nat.le_mul_of_pos_left y hpt
      have lx : (lim x).length ≤ 40000 := Nat.le_trans (lim_mono hxX) HLX.out
      have ly : (lim y).length ≤ 40000 := Nat.le_trans (lim_mono hyY) HLY.out
      have htl : t ≤ 1280000 := by
        have h3 : 2 ^ t ≤ X := by rw [← hX]; exact Nat.le_mul_of_pos_right _ hx0
        have h4 := lim_len.1 (Nat.le_refl (lim X).length)
        rw [B_two] at h4
        have h5 : 2 ^ t < 2 ^ (32 * (lim X).length) := Nat.lt_of_le_of_lt h3 h4
        have h6 := (Nat.pow_lt_pow_iff_right (by omega)).1 h5
        have h7 := HLX.out
        omega
      have HA := Lib.hid (fun b hb => rodd_lim (own_sl hp.oa) (by omega) b hb)
      have HB := Lib.hid (fun b hb => rodd_lim (own_sl hp.ob) (by omega) b hb)
      have HHA := Lib.hid (hp.halfA hx0 (by omega))
      have HQ := Lib.hid (And.intro hx0 (And.intro hX (And.intro hY hk)))
      have HP := Lib.hid hp; have HBE := Lib.hid hbel
      obtain ⟨A1, c1, e1, _, _, _⟩ := own_form hp.oa
      obtain ⟨A2, c2, e2, _, _, _⟩ := own_form hp.ob
      subst e1 e2
      have hny : (lim y).length = 0 ↔ y = 0 := lim_len0
      have HYY := Lib.hid hyY
      clear hp hbel hx0 hX hY hk hxX hyY hpt
      generalize (lim x).length = nx at *
      generalize (lim y).length = ny at *
      rcases Nat.eq_zero_or_pos y with hy | hy
      · have hn0 := hny.2 hy
        subst hn0
        obtain ⟨q1, q2, q3, q4⟩ := HQ.out
        have HF := Lib.hid (show Cm2 w X Y (.int .i64 ((t : Nat) : Int)) (.slice A1 nx c1) (.slice A2 0 c2) wr from ⟨t, x, y, rfl, HP.out, q1, q2, q3, Or.inl hy, HBE.out⟩)
        clear q1 q2 q3 q4 hny hy HP HBE HQ
        go_wp2_with fail
        go_meet
        exact HF.out
      · have hn1 : 0 < ny := by rcases Nat.eq_zero_or_pos ny with h | h; exact absurd (hny.1 h) (by omega); exact h
        have hn1I : (0 : Int) < (ny : Int) := by omega
        rcases (show x % 2 = 1 ∨ x % 2 = 0 by omega) with hx2 | hx2
        · have HA := Lib.hid (HA.out true (by rw [hx2]; rfl))
          obtain ⟨q1, q2, q3, q4⟩ := HQ.out
          have HF := Lib.hid (show Cm2 w X Y (.int .i64 ((t : Nat) : Int)) (.slice A1 nx c1) (.slice A2 ny c2) wr from ⟨t, x, y, rfl, HP.out, q1, q2, q3, Or.inr (Or.inl hx2), HBE.out⟩)
          clear q1 q2 q3 q4 hny hy HP HBE HQ HB HHA hx2
          go_wp2_with (go_at_call 74; (with_reducible refine HA.out.mono ?_); rintro e w' ⟨rfl, rfl⟩)
          go_meet
          exact HF.out
        · have HA := Lib.hid (HA.out false (by rw [hx2]; rfl))
          rcases (show y % 2 = 1 ∨ y % 2 = 0 by omega) with hy2 | hy2
          · have HB := Lib.hid (HB.out true (by rw [hy2]; rfl))
            obtain ⟨q1, q2, q3, q4⟩ := HQ.out
            have HF := Lib.hid (show Cm2 w X Y (.int .i64 ((t : Nat) : Int)) (.slice A1 nx c1) (.slice A2 ny c2) wr from ⟨t, x, y, rfl, HP.out, q1, q2, q3, Or.inr (Or.inr hy2), HBE.out⟩)
            clear q1 q2 q3 q4 hny hy HP HBE HQ HHA hx2 hy2
            go_wp2_with (go_at_call 74; first | ((with_reducible refine HA.out.mono ?_); rintro e w' ⟨rfl, rfl⟩) | ((with_reducible refine HB.out.mono ?_); rintro e w' ⟨rfl, rfl⟩))
            go_meet
            exact HF.out
          · have HB := Lib.hid (HB.out false (by rw [hy2]; rfl))
            obtain ⟨q1, q2, q3, q4⟩ := HQ.out
            have HX2 := Lib.hid (show 0 < x / 2 ∧ 2 ^ (t + 1) * (x / 2) = X ∧ 2 ^ (t + 1) * (y / 2) = Y ∧ x / 2 + y / 2 < x + y by
              refine ⟨by omega, ?_, ?_, by omega⟩
              · rw [Nat.pow_succ, Nat.mul_assoc, show 2 * (x / 2) = x by omega]; exact q2
              · rw [Nat.pow_succ, Nat.mul_assoc, show 2 * (y / 2) = y by omega]; exact q3)
            have htI : (t : Int) ≤ 1280000 := by omega
            have HYP := Lib.hid hy; have HK := Lib.hid q4
            clear q1 q2 q3 q4 hny hy HP HQ hx2 hy2
            go_wp2_with (go_at_call 74; first | ((with_reducible refine HA.out.mono ?_); rintro e w' ⟨rfl, rfl⟩) | ((with_reducible refine HB.out.mono ?_); rintro e w' ⟨rfl, rfl⟩))
            refine HHA.out.mono ?_
            rintro e w3 ⟨v3, rfl, hp3, hb3⟩
            have HHB := Lib.hid (hp3.halfB HYP.out (Nat.le_trans (Nat.le_trans (lim_mono HYY.out) HLY.out) (by omega)))
            have B3 := Lib.hid (HBE.out.trans hb3)
            clear hp3 hb3 HHA HA HB HBE
            go_wp2_with fail
            refine HHB.out.mono ?_
            rintro e w4 ⟨v4, rfl, hp4, hb4⟩
            have B4 := Lib.hid (B3.out.trans hb4)
            have HP4 := Lib.hid hp4
            clear hp4 hb4 HHB B3
            go_wp2_with fail
            go_roundg (x / 2 + y / 2)
            case measure => rw [← HK.out]; exact HX2.out.2.2.2
            case rel => exact ⟨t + 1, x / 2, y / 2, by go_num, HP4.out, HX2.out.1, HX2.out.2.1, HX2.out.2.2.1, rfl, B4.out⟩
  case rest =>
    obtain ⟨t, x0, y0, rfl, hp0, hx0, hX, hY, hpar, hbel⟩ := hcut
    have hG : Nat.gcd X Y = 2 ^ t * Nat.gcd x0 y0 := by rw [← hX, ← hY, Nat.gcd_mul_left]
    have hpt := Nat.two_pow_pos t
    obtain ⟨M, hM⟩ : ∃ m, m = max X Y := ⟨_, rfl⟩
    have hML : (lim M).length ≤ 40000 := by
      rw [hM]
      rcases Nat.le_total X Y with h | h
      · rw [Nat.max_eq_right h]; exact HLY.out
      · rw [Nat.max_eq_left h]; exact HLX.out
    have hxM : x0 ≤ M := by
      have : x0 ≤ X := by rw [← hX]; exact Nat.le_mul_of_pos_left x0 hpt
      omega
    have hyM : y0 ≤ M := by
      have : y0 ≤ Y := by rw [← hY]; exact Nat.le_mul_of_pos_left y0 hpt
      omega
    have htl : t ≤ 1280000 := by
      have h3 : 2 ^ t ≤ X := by rw [← hX]; exact Nat.le_mul_of_pos_right _ hx0
      have h4 := lim_len.1 (Nat.le_refl (lim X).length)
      rw [B_two] at h4
      have h5 : 2 ^ t < 2 ^ (32 * (lim X).length) := Nat.lt_of_le_of_lt h3 h4
      have h6 := (Nat.pow_lt_pow_iff_right (by omega)).1 h5
      have h7 := HLX.out
      omega
    obtain ⟨G, hg⟩ : ∃ g, g = Nat.gcd x0 y0 := ⟨_, rfl⟩
    rw [← hg] at hG
    have HG := Lib.hid hG; have HML := Lib.hid hML
    obtain ⟨K, hK⟩ : ∃ k, k = x0 + y0 := ⟨_, rfl⟩
    have hst : Cm3 w G M K _ _ _ := ⟨x0, y0, hp0, hx0, hg.symm, hxM, hyM, hpar, hK.symm, hbel⟩
    have HST := Lib.hid hst
    have htI : (t : Int) ≤ 1280000 := by omega
    clear hst hp0 hx0 hX hY hpar hbel hG hpt hM hML hxM hyM htl hg hK HP B2
    go_wp2_with fail
    go_loopg [6, 7] K (fun k s6 s7 wr => Cm3 w G M k s6 s7 wr)
    case atStart => exact HST.out
    case round =>
      clear HST
      obtain ⟨x, y, hp, hx0, hgc, hxM, hyM, hpar, hk, hbel⟩ := hrel
      have lx : (lim x).length ≤ 40000 := Nat.le_trans (lim_mono hxM) HML.out
      have ly : (lim y).length ≤ 40000 := Nat.le_trans (lim_mono hyM) HML.out
      rcases Nat.eq_zero_or_pos y with hy | hy
      · subst hy
        have hxG : x = G := by rw [← hgc, Nat.gcd_zero_right]
        subst hxG
        obtain ⟨A1, c1, e1, _, _, _⟩ := own_form hp.oa
        obtain ⟨A2, c2, e2, _, _, _⟩ := own_form hp.ob
        have S1 := Lib.hid (own_sl hp.oa)
        rw [lim_zero, List.length_nil] at e2
        subst e1 e2
        have HBE := Lib.hid hbel
        obtain ⟨nx, hnx⟩ : ∃ n, n = (lim x).length := ⟨_, rfl⟩
        rw [← hnx] at S1 ⊢
        clear hp hgc hxM hyM hpar hk hbel lx ly hnx hx0
        go_wp2_with fail
        have HST := Lib.hid S1.out
        go_loopw [6, 9] (fun s6 s9 wr => ∃ i : Nat, i ≤ t ∧ s9 = .int .i64 ((i : Nat) : Int) ∧ Sl wr s6 (lim (2 ^ i * x)) ∧ Below w.heap.size w wr) (fun _ s9 _ => t - (intOf s9).toNat)
        case atStart => exact ⟨0, Nat.zero_le _, rfl, by rw [Nat.pow_zero, Nat.one_mul]; exact S1.out, HBE.out⟩
        case round =>
          clear S1 HBE HST
          obtain ⟨i, hi, rfl, hs, hbel⟩ := hrel
          have HBE := Lib.hid hbel
          rcases Nat.lt_or_ge i t with hlt | hge
          · have hle : 2 ^ i * x ≤ X := by
              have h1 : 2 ^ i * x ≤ 2 ^ t * x := Nat.mul_le_mul_right _ (Nat.pow_le_pow_right (by omega) hi)
              rw [← HG.out] at h1
              exact Nat.le_trans h1 (Nat.le_of_dvd HX.out (Nat.gcd_dvd_left _ _))
            have hln := Nat.le_trans (lim_mono hle) HLX.out
            have HP := Lib.hid (rplus_lim hs hs (by omega) (by omega))
            have HE := Lib.hid (show 2 ^ i * x + 2 ^ i * x = 2 ^ (i + 1) * x by rw [Nat.pow_succ, Nat.mul_assoc, Nat.mul_comm 2 x, ← Nat.mul_assoc]; omega)
            have hiI : (i : Int) < (t : Int) := by omega
            have HI := Lib.hid (show i + 1 ≤ t by omega)
            clear hle hln hs hbel hi hlt
            go_wp2_with fail
            refine HP.out.mono ?_
            rintro e w3 ⟨v3, rfl, hs3, hb3⟩
            have S3 := Lib.hid hs3; have B3 := Lib.hid (below_step HBE.out hb3)
            clear hs3 hb3 HP HBE
            go_wp2_with fail
            go_roundw
            case rel =>
              have hr1 : ∃ i' : Nat, i' ≤ t ∧ Value.int .i64 ((i : Int) + 1) = .int .i64 ((i' : Nat) : Int) ∧ Sl w3 v3 (lim (2 ^ i' * x)) ∧ Below w.heap.size w w3 := ⟨i + 1, HI.out, by simp, by rw [← HE.out]; exact S3.out, B3.out⟩
              first | exact hr1 | ((repeat apply Exists.intro); exact ⟨hr1, rfl⟩)
            case measure => simp only [intOf]; omega
          · have hit : i = t := by omega
            subst hit
            have HS := Lib.hid hs
            clear hs hbel hi hge
            go_wp2_with fail
            go_ret
            exact ⟨_, rfl, by rw [HG.out]; exact HS.out, HBE.out⟩
      · have HGC := Lib.hid hgc; have HXM := Lib.hid hxM; have HYM := Lib.hid hyM; have HK := Lib.hid hk; have HY0 := Lib.hid hy
        have hpar2 : x % 2 = 1 ∨ y % 2 = 1 := by omega
        obtain ⟨KA, hKA⟩ : ∃ k, k = x := ⟨_, rfl⟩
        have HST := Lib.hid (show ∃ x', Pq wr w.heap.size u6 u7 x' y ∧ 0 < x' ∧ Nat.gcd x' y = G ∧ (x' % 2 = 1 ∨ y % 2 = 1) ∧ x' ≤ x ∧ x' = KA ∧ Below w.heap.size w wr from ⟨x, hp, hx0, hgc, hpar2, Nat.le_refl _, hKA.symm, hbel⟩)
        obtain ⟨A2, c2, e2, _, _, _⟩ := own_form hp.ob
        have hn1 := pos_lim hy
        obtain ⟨ny, hny⟩ : ∃ n, n = (lim y).length := ⟨_, rfl⟩
        rw [← hny] at e2 hn1
        subst e2
        have hn1I : (0 : Int) < (ny : Int) := by omega
        have hnD : decide (0 < ny) = true := decide_eq_true hn1
        clear hp hgc hxM hyM hpar hk hbel lx ly hpar2 hKA hny hx0 hn1
        go_wp2_with fail
        try simp only [hnD]
        go_loopg [6] KA (fun k s6 wr => ∃ x', Pq wr w.heap.size s6 (.slice A2 ny c2) x' y ∧ 0 < x' ∧ Nat.gcd x' y = G ∧ (x' % 2 = 1 ∨ y % 2 = 1) ∧ x' ≤ x ∧ x' = k ∧ Below w.heap.size w wr)
        case atStart => exact HST.out
        case round =>
          clear HST
          obtain ⟨x', hp, hx0, hgc, hpar, hxx, hk, hbel⟩ := hrel
          have lx : (lim x').length ≤ 40000 := Nat.le_trans (lim_mono (Nat.le_trans hxx HXM.out)) HML.out
          have HBE := Lib.hid hbel
          rcases (show x' % 2 = 1 ∨ x' % 2 = 0 by omega) with hx2 | hx2
          · have HA := Lib.hid (rodd_lim (own_sl hp.oa) (by omega) true (by rw [hx2]; rfl))
            obtain ⟨KB, hKB⟩ : ∃ k, k = y := ⟨_, rfl⟩
            have hst : ∃ y', Pq _ w.heap.size _ _ x' y' ∧ 0 < y' ∧ Nat.gcd x' y' = G ∧ y' ≤ y ∧ y' = KB ∧ Below w.heap.size w _ := ⟨y, hp, HY0.out, hgc, Nat.le_refl _, hKB.symm, hbel⟩
            have HST := Lib.hid hst
            have HX0 := Lib.hid hx0; have HX2 := Lib.hid hx2; have HXX := Lib.hid hxx; have LX := Lib.hid lx
            clear hst hp hgc hpar hxx hk hbel hx0 hx2 hKB lx
            go_wp2_with (go_at_call 74; (with_reducible refine HA.out.mono ?_); rintro e w' ⟨rfl, rfl⟩)
            go_loopg [7] KB (fun k s7 wr => ∃ y', Pq wr w.heap.size u6 s7 x' y' ∧ 0 < y' ∧ Nat.gcd x' y' = G ∧ y' ≤ y ∧ y' = k ∧ Below w.heap.size w wr)
            case atStart => exact HST.out
            case round =>
              clear HST HA
              obtain ⟨y', hp, hy0, hgc, hyy, hk, hbel⟩ := hrel
              have ly : (lim y').length ≤ 40000 := Nat.le_trans (lim_mono (Nat.le_trans hyy HYM.out)) HML.out
              have HBE := Lib.hid hbel
              rcases (show y' % 2 = 1 ∨ y' % 2 = 0 by omega) with hy2 | hy2
              · have HA := Lib.hid (rodd_lim (own_sl hp.ob) (by omega) true (by rw [hy2]; rfl))
                have lx := LX.out
                have HC := Lib.hid (rcompare_lim (own_sl hp.oa) (own_sl hp.ob) (by omega) (by omega))
                obtain ⟨o1, ho1⟩ : ∃ o, o = ord x' y' := ⟨_, rfl⟩
                rw [← ho1] at HC
                have hx0 := HX0.out; have hx2 := HX2.out; have hxx := HXX.out; have hxM := HXM.out; have hyM := HYM.out
                by_cases hgt : y' < x'
                · have ho : 0 < o1 := by rw [ho1]; unfold ord; rw [if_neg (by omega), if_neg (by omega)]; omega
                  have HT := Lib.hid (hp.swap.takeB hx0 (Nat.le_of_lt hgt) (by omega) (by omega))
                  have HN := Lib.hid (show Nat.gcd y' (x' - y') = G ∧ y' ≤ M ∧ x' - y' ≤ M ∧ y' + (x' - y') < x + y from
                    ⟨by rw [gcd_take y' x' (Nat.le_of_lt hgt), Nat.gcd_comm]; exact hgc, by omega, by omega, by have := HY0.out; omega⟩)
                  have HY2 := Lib.hid hy2; have HYP := Lib.hid hy0
                  clear hp hy0 hgc hyy hk hbel hy2 lx ly ho1 hgt hx0 hx2 hxx hxM hyM
                  go_wp2_with (first | (go_at_call 74; (with_reducible refine HA.out.mono ?_); rintro e w' ⟨rfl, rfl⟩) | (go_at_call 76; (with_reducible refine HC.out.mono ?_); rintro e w' ⟨rfl, rfl⟩))
                  refine HT.out.mono ?_
                  rintro e w3 ⟨v3, rfl, hp3, hb3⟩
                  have HP3 := Lib.hid hp3; have HB3 := Lib.hid (HBE.out.trans hb3)
                  clear hp3 hb3 HT HA HBE HC
                  go_wp2_with fail
                  go_roundg (y' + (x' - y'))
                  case measure => rw [← HK.out]; exact HN.out.2.2.2
                  case rel =>
                    have hr1 : Cm3 w G M (y' + (x' - y')) u7 v3 w3 := ⟨y', x' - y', HP3.out, HYP.out, HN.out.1, HN.out.2.1, HN.out.2.2.1, Or.inr (Or.inl HY2.out), rfl, HB3.out⟩
                    first | exact hr1 | ((repeat apply Exists.intro); exact ⟨hr1, rfl⟩)
                · have ho : ¬ (0 < o1) := by rw [ho1]; unfold ord; split <;> (try split) <;> omega
                  have HT := Lib.hid (hp.takeB hy0 (by omega) (by omega) (by omega))
                  have HN := Lib.hid (show Nat.gcd x' (y' - x') = G ∧ x' ≤ M ∧ y' - x' ≤ M ∧ x' + (y' - x') < x + y from
                    ⟨by rw [gcd_take x' y' (by omega)]; exact hgc, by omega, by omega, by omega⟩)
                  clear hp hy0 hgc hyy hk hbel hy2 lx ly ho1 hgt hx0 hx2 hxx hxM hyM
                  go_wp2_with (first | (go_at_call 74; (with_reducible refine HA.out.mono ?_); rintro e w' ⟨rfl, rfl⟩) | (go_at_call 76; (with_reducible refine HC.out.mono ?_); rintro e w' ⟨rfl, rfl⟩))
                  refine HT.out.mono ?_
                  rintro e w3 ⟨v3, rfl, hp3, hb3⟩
                  have HP3 := Lib.hid hp3; have HB3 := Lib.hid (HBE.out.trans hb3)
                  clear hp3 hb3 HT HA HBE HC
                  go_wp2_with fail
                  go_roundg (x' + (y' - x'))
                  case measure => rw [← HK.out]; exact HN.out.2.2.2
                  case rel =>
                    have hr1 : Cm3 w G M (x' + (y' - x')) u6 v3 w3 := ⟨x', y' - x', HP3.out, HX0.out, HN.out.1, HN.out.2.1, HN.out.2.2.1, Or.inr (Or.inl HX2.out), rfl, HB3.out⟩
                    first | exact hr1 | ((repeat apply Exists.intro); exact ⟨hr1, rfl⟩)
              · have HA := Lib.hid (rodd_lim (own_sl hp.ob) (by omega) false (by rw [hy2]; rfl))
                have HH := Lib.hid (hp.halfB hy0 (by omega))
                have HKK := Lib.hid hk
                have HN := Lib.hid (show 0 < y' / 2 ∧ Nat.gcd x' (y' / 2) = G ∧ y' / 2 ≤ y ∧ y' / 2 < y' by
                  refine ⟨by omega, ?_, by omega, by omega⟩
                  rw [← hgc, ← gcd_half_right x' (y' / 2) HX2.out, show 2 * (y' / 2) = y' by omega])
                clear hp hy0 hgc hyy hk hbel hy2 ly
                go_wp2_with (go_at_call 74; (with_reducible refine HA.out.mono ?_); rintro e w' ⟨rfl, rfl⟩)
                refine HH.out.mono ?_
                rintro e w3 ⟨v3, rfl, hp3, hb3⟩
                have HP3 := Lib.hid hp3; have HB3 := Lib.hid (HBE.out.trans hb3)
                clear hp3 hb3 HH HA HBE
                go_wp2_with fail
                go_roundg (y' / 2)
                case measure => rw [← HKK.out]; exact HN.out.2.2.2
                case rel =>
                  have hr1 : ∃ y'', Pq w3 w.heap.size u6 v3 x' y'' ∧ 0 < y'' ∧ Nat.gcd x' y'' = G ∧ y'' ≤ y ∧ y'' = y' / 2 ∧ Below w.heap.size w w3 := ⟨y' / 2, HP3.out, HN.out.1, HN.out.2.1, HN.out.2.2.1, rfl, HB3.out⟩
                  first | exact hr1 | ((repeat apply Exists.intro); exact ⟨hr1, rfl⟩)
          · have HA := Lib.hid (rodd_lim (own_sl hp.oa) (by omega) false (by rw [hx2]; rfl))
            have HH := Lib.hid (hp.halfA hx0 (by omega))
            have HKK := Lib.hid hk
            have hy1 : y % 2 = 1 := by omega
            have HN := Lib.hid (show 0 < x' / 2 ∧ Nat.gcd (x' / 2) y = G ∧ x' / 2 ≤ x ∧ x' / 2 < x' by
              refine ⟨by omega, ?_, by omega, by omega⟩
              rw [← hgc, ← gcd_half_left (x' / 2) y hy1, show 2 * (x' / 2) = x' by omega])
            have HY1 := Lib.hid hy1
            clear hp hgc hpar hxx hk hbel hx0 hx2 lx hy1
            go_wp2_with (go_at_call 74; (with_reducible refine HA.out.mono ?_); rintro e w' ⟨rfl, rfl⟩)
            refine HH.out.mono ?_
            rintro e w3 ⟨v3, rfl, hp3, hb3⟩
            have HP3 := Lib.hid hp3; have HB3 := Lib.hid (HBE.out.trans hb3)
            clear hp3 hb3 HH HA HBE
            go_wp2_with fail
            go_roundg (x' / 2)
            case measure => rw [← HKK.out]; exact HN.out.2.2.2
            case rel =>
              have hr1 : ∃ x'', Pq w3 w.heap.size v3 (.slice A2 ny c2) x'' y ∧ 0 < x'' ∧ Nat.gcd x'' y = G ∧ (x'' % 2 = 1 ∨ y % 2 = 1) ∧ x'' ≤ x ∧ x'' = x' / 2 ∧ Below w.heap.size w w3 := ⟨x' / 2, HP3.out, HN.out.1, HN.out.2.1, Or.inr HY1.out, HN.out.2.2.1, rfl, HB3.out⟩
              first | exact hr1 | ((repeat apply Exists.intro); exact ⟨hr1, rfl⟩)
end Go.Proofs.Ytbfhilbagojdnaa
