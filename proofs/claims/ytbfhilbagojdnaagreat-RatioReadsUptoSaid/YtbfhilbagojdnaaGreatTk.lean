/-
  Take of the reference; the first bytes of a slice.
  No condition but the lengths.
-/
import Derived.Test.YtbfhilbagojdnaaGreatDx
namespace Go.Proofs.YtbfhilbagojdnaaGreat
open Go.RowKit Wr Go.Proofs.YtbfhilbagojdnaaGreat.Nm
open Go.Proofs.YtbfhilbagojdnaaGreat.W1.Wr (okInt decInts encInts)
open Go.Proofs.YtbfhilbagojdnaaGreat.W1 (I64 I64_get I64_len I64_one encInts_le)
set_option linter.unusedVariables false
set_option maxRecDepth 100000

theorem I64_take (l : List Int) (k : Nat) : I64 (l.take k) = (I64 l).take k := by simp [I64]
/-- An append of ints that can be read, nil or not, to nil. -/
theorem wpList_app_ints {w : World} {ops : Array Oper} {rest : List Oper} {o : Oper} {a : Act} {Q : Exit → Act → World → Prop} (hgd : o.guard = none) (s x : Operand)
    (ho : o.op = .call { callee := .builtin .append, args := #[s, x], argTypes := #[50, 50] }) (base : Nat) (hs : a.eval s = .slice none 0 0)
    (A : Option Addr) (m c : Nat) (news : List Int) (hx : a.eval x = .slice A m c) (hnil : A = none → c = 0) (hl : news.length = m) (hr : Rd w w.heap.size A (I64 news))
    (hm : m ≤ 1048576) (hbase : base ≤ w.heap.size)
    (h : ∀ v' w', w'.ownsRow base 3 1 v' news.length (I64 news) → w.grownBy w' none → wpList Tryz.prog ops Q rest (a.put o.dst v') w') : wpList Tryz.prog ops Q (o :: rest) a w := by
  obtain ⟨i0, hi0, hz0, hz1, hz2⟩ := info_parts W1.Tryz.info3
  have hown : w.ownsRow base 3 1 (.slice none 0 0) 0 [] := World.ownsRow_nil _ _ _ _
  by_cases hne : I64 news = []
  · have hm : m = 0 := by rw [← hl, ← I64_len, hne]; rfl
    subst hm
    cases A with
    | none =>
      have hc := hnil rfl
      subst hc
      refine Lib.wpList_append_run w hgd s x 50 50 ho _ _ hs hx _ w (run_append_owned_none w base 50 _ 3 i0 1 Tryz.underlying50 hi0 _ 0 [] hown) (h _ w ?_ (World.grownBy.refl _ _))
      rw [hne, hl]; exact hown
    | some ad =>
      exact wpList_append_own w hgd s x 50 ho base 3 i0 (.int .i64 0) 1 8 Tryz.underlying50 hi0 hz0 hz1 hz2 rfl (by decide) _ 0 [] hs hown ad 0 c (I64 news) hx (by rw [hne]; rfl) (fun j u hu => by rw [hne] at hu; simp at hu) (I64_one _) (by unfold maxLen; omega) (by omega) hbase (fun v' w' h1 h2 _ => h v' w' (by rw [hl]; exact h1) h2)
  · obtain ⟨g, off, rfl, hg, hcell⟩ := hr hne
    exact wpList_append_own w hgd s x 50 ho base 3 i0 (.int .i64 0) 1 8 Tryz.underlying50 hi0 hz0 hz1 hz2 rfl (by decide) _ 0 [] hs hown ⟨g, off, none⟩ m c (I64 news) hx (by rw [I64_len, hl, Nat.mul_one]) (fun j u hu => by rw [Addr.add_lit]; exact hcell j u hu) (I64_one _) (by unfold maxLen; omega) (by omega) hbase (fun v' w' h1 h2 _ => h v' w' (by rw [hl, ← Nat.zero_add m]; exact h1) h2)
theorem take6_any {A : Option Addr} {n c : Nat} {l : List Int} {w : World} (hl : l.length = n) (hn : n ≤ 9223372036854775807) (hc : n ≤ c) (hnil : A = none → c = 0) (hr : Rd w w.heap.size A (I64 l)) : Calls Tryz.prog 38 #[.slice A n c, .int .i64 6] w (IvP w (l.take 6)) := by
  obtain ⟨m, hm⟩ : ∃ m, m = min n 6 := ⟨_, rfl⟩
  have HR := Lib.hid (show Rd w w.heap.size A (I64 (l.take 6)) by rw [I64_take]; exact hr.take 6)
  have HL := Lib.hid (show (l.take 6).length = m by rw [List.length_take, hl, hm]; omega)
  have HN := Lib.hid hnil
  have hI : min (n : Int) 6 = (m : Int) := by omega
  have hmc : (m : Int) ≤ (c : Int) := by omega
  have HM := Lib.hid (show m ≤ 1048576 by omega)
  clear hr hl hm hnil hc
  go_enter Tryz.func38, Tryz.ntmps38
  go_wp2_with (at_builtin; (refine wpList_app_ints rfl (.tmp 6) (.tmp 12) rfl w.heap.size rfl A m c (l.take 6) rfl HN.out HL.out HR.out HM.out (Nat.le_refl _) ?_))
  intro v' w' ho hg
  have HO := Lib.hid (show Iv w' v' (l.take 6) from own_iv (by rw [List.length_take]; exact ho))
  have HB := Lib.hid ((Below.refl w.heap.size w).grown hg (Nat.le_refl _) (fun q e => by cases e))
  clear ho hg
  go_wp2
  go_ret
  exact ⟨v', rfl, HO.out, HB.out⟩
end Go.Proofs.YtbfhilbagojdnaaGreat
