/-
  Two blocks: what the trees are of lists that begin with 0 and 1.
  No condition.
-/
import Derived.Test.YtpbhgebblpdmnaaDoorLi
import Derived.Test.YtpbhgebblpdmnaaDoorGApGt
namespace Go.Proofs.YtpbhgebblpdmnaaDoor
open Go.RowKit Wr Src
set_option linter.unusedVariables false
set_option maxRecDepth 100000
theorem tk_head (z : Int) (L : List Int) : tkN ((z :: L).take 48) 0 10 = arI z 10 := by
 unfold tkN
 rw [List.take_succ_cons]; rfl
theorem blk_of {z : Int} {L : List Int} {n : Nd} {kd : Nat} (hz : z = 0 ∧ kd = 5 ∨ z = 1 ∧ kd = 6) (h : TF ((z :: L).take 48) n) : ∃ t l, n = .mk (kd : Int) t 0 [.mk 8 [] 0 l] ∧ (∀ x ∈ l, 9 ≤ x.kind ∧ x.kind ≤ 25 ∧ rt 22 x) ∧ l.length ≤ 1000 ∧ ∀ (k : Nat) (u : Str), k = 5 ∨ k = 6 → nameOk u → u.length ≤ 16 → vDef (pr k u l) := by
 have hk := h.k
 rw [tk_head] at hk
 have hkd : n.kind = (kd : Int) := by
  rcases hz with ⟨rfl, rfl⟩ | ⟨rfl, rfl⟩
  ·
   exact (Option.some.inj (show some (5 : Int) = some n.kind from hk)).symm
  ·
   exact (Option.some.inj (show some (6 : Int) = some n.kind from hk)).symm
 obtain ⟨l, j, e, hp⟩ := h.pt (by rw [hkd]; rcases hz with ⟨_, rfl⟩ | ⟨_, rfl⟩ <;> simp)
 have hN : ((z :: L).take 48).length ≤ 48 := by simp; omega
 refine ⟨n.text, l, ?_, fun x hx => ?_, ?_, fun k u hku hu hul => tp_valid hp hN hku hu hul⟩
 ·
  rw [e]
  show Nd.mk ((n.kind.toNat : Nat) : Int) n.text 0 [.mk 8 [] 0 l] = _
  rw [hkd, Int.toNat_natCast]
  rfl
 ·
  obtain ⟨a, b, c⟩ := hp.k x hx
  exact ⟨a, b, rt_le (by omega) c⟩
 ·
  have := hp.n; have := hp.hi; omega
theorem pP : nameOk [112] ∧ nameOk [113] := by
 have h : ((cls [112] = 3 ∧ wordLen [112] = 1) ∧ (cls [113] = 3 ∧ wordLen [113] = 1)) := by decide
 exact h
theorem print_pr {B : Nat} {w : World} {k : Nat} {u : Str} {l : List Nd} {cs : List Value} (ht : Tab B w) (hv : NV w Any (pr k u l) cs) (hd : vDef (pr k u l)) : Calls Tryd.prog 6 #[.agg cs.toArray] w fun en w' => en = .returned (sv (txt 24 (pr k u l))) ∧ Below w.heap.size w w' := by
 refine (print_any ht _ _ hv).mono ?_
 rintro en w' ⟨T, rfl, h2, h3, _⟩
 rw [h3 hd]; exact ⟨rfl, h2⟩
theorem invalid_pr {B : Nat} {w : World} {k : Nat} {u : Str} {l : List Nd} {cs : List Value} (ht : Tab B w) (hv : NV w Any (pr k u l) cs) (hd : ¬ vDef (pr k u l)) : Calls Tryd.prog 8 #[.agg cs.toArray] w fun en w' => en = .returned (.bool false) ∧ Below w.heap.size w w' := by
 refine (valid_any ht _ _ hv).mono ?_
 rintro en w' ⟨r, rfl, h2, h3⟩
 cases r with
 | true => exact absurd (h3.1 rfl) hd
 | false => exact ⟨rfl, h2⟩
theorem nv_again {w : World} {k k2 : Int} {t t2 : Str} {l : List Nd} {A : Option Addr} {n c : Nat} (h : NV w Any (.mk k t 0 l) (NC k t 0 (.slice A n c))) (hf : Fine k2 t2 0) : NV w Any (.mk k2 t2 0 l) (NC k2 t2 0 (.slice A n c)) := by
 obtain ⟨A', c', xs, e, _, h3, h4, h5, h6, h7⟩ := h.form
 injection e with _ e; injection e with _ e; injection e with _ e; injection e with e _
 injection e with e1 e2 e3
 subst e1 e2 e3
 exact NV.intro hf h3 h4 h5 h6 h7
structure Texts (l1 l2 : List Nd) (SA SB SW ST : Str) : Prop where
 a : txt 24 (pr 5 [112] l1) = SA
 b : txt 24 (pr 6 [113] l2) = SB
 w : txt 24 (pr 5 [112] (l1 ++ l2)) = SW
 t : txt 24 (pr 6 [112] (l1 ++ l2)) = ST
 la : 10 ≤ SA.length
 lb : 10 ≤ SB.length
 cut : SA.take (SA.length - 1) ++ SB.drop 9 = SW
 two : [116, 101, 115, 116] ++ SW.drop 4 = ST
 lt : ST.length = SW.length
 l4 : 4 ≤ SW.length
theorem texts_of {l1 l2 : List Nd} (h1 : ∀ x ∈ l1, 9 ≤ x.kind ∧ x.kind ≤ 25 ∧ rt 22 x) (h2 : ∀ x ∈ l2, 9 ≤ x.kind ∧ x.kind ≤ 25 ∧ rt 22 x) : ∃ SA SB SW ST, Texts l1 l2 SA SB SW ST := by
 obtain ⟨s1, s2, e1, e2, e3, e4⟩ := blocks_text h1 h2
 refine ⟨_, _, _, _, ⟨e1, e2, e3, e4, by simp, by simp, ?_, ?_, by simp, by simp⟩⟩
 ·
  have e5 : ([112, 114, 111, 99, 32, 112, 32, 123] ++ s1 ++ [32, 125] : Str) = ([112, 114, 111, 99, 32, 112, 32, 123] ++ s1 ++ [32]) ++ [125] := by simp
  rw [e5, List.length_append, List.length_singleton, Nat.add_sub_cancel, List.take_left']
  ·
   simp
  ·
   rfl
 ·
  simp
theorem ext_sv {a : Str} (i j : Nat) : (⟨a.toArray⟩ : ByteArray).extract i j = ⟨((a.drop i).take (j - i)).toArray⟩ := by
 apply ByteArray.ext
 rw [ByteArray.data_extract]
 simp [List.extract_eq_take_drop]
theorem cat_sv (a b : Str) : (⟨a.toArray⟩ : ByteArray) ++ ⟨b.toArray⟩ = ⟨(a ++ b).toArray⟩ := by
 apply ByteArray.ext
 simp
theorem same_sv (a : Str) : ((⟨a.toArray⟩ : ByteArray) == ⟨a.toArray⟩) = true := by
 show (a.toArray == a.toArray) = true
 simp
end Go.Proofs.YtpbhgebblpdmnaaDoor
