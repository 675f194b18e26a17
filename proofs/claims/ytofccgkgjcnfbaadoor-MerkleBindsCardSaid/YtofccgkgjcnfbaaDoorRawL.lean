/-
  The contracts of the reference's Short and of the laws' leaves.
  Conditions: strings of at most 2^63 - 1 bytes.
-/
import Derived.Test.YtofccgkgjcnfbaaDoorGen
namespace Go.Proofs.YtofccgkgjcnfbaaDoor
open Go.RowKit Wr Sh
set_option linter.unusedVariables false
set_option maxRecDepth 100000

theorem short_any (s : ByteArray) (k : Nat) (w : World) (hs : s.size ≤ 9223372036854775807) (hk : k ≤ 1000) :
    Calls Tryd.prog 21 #[.string s, .int .i64 (k : Int)] w fun e w' => ∃ t : ByteArray, e = .returned (.string t) ∧ t.size ≤ k ∧ w = w' := by
  by_cases h : k < s.size
  · have h1 : (k : Int) < (s.size : Int) := by omega
    have h2 : (k : Int) ≤ (s.size : Int) := by omega
    go_enter Tryd.func21, Tryd.ntmps21
    go_wp2
    go_ret
    exact ⟨_, rfl, by simp; exact Nat.min_le_left _ _, rfl⟩
  · have h1 : ¬ (k : Int) < (s.size : Int) := by omega
    go_enter Tryd.func21, Tryd.ntmps21
    go_wp2
    go_ret
    exact ⟨_, rfl, by omega, rfl⟩
def RawPost (w : World) (e : Ending) (w' : World) : Prop := ∃ (R : List Lf) (A' : Option Addr) (c' : Nat), R.length ≤ 8 ∧ (∀ x ∈ R, x.1.size ≤ 40 ∧ x.2.size ≤ 40) ∧ e = .returned (.slice A' R.length c') ∧ R.length ≤ c' ∧ (A' = none → c' = 0) ∧ Rd w' w'.heap.size A' (LC R) ∧ Below w.heap.size w w'
set_option maxHeartbeats 4000000 in
theorem raws_any (A : Option Addr) (raw : List Lf) (c : Nat) (w : World) (hl : raw.length ≤ 281474976710656) (hr : Rd w w.heap.size A (LC raw)) (hs : ∀ x ∈ raw, x.1.size ≤ 9223372036854775807 ∧ x.2.size ≤ 9223372036854775807) :
    Calls Tryd.prog 11 #[.slice A raw.length c] w (RawPost w) := by
  obtain ⟨N, hN⟩ : ∃ N, N = raw.length := ⟨_, rfl⟩
  rw [← hN] at hl ⊢
  have HN := Lib.hid hN
  have HR := Lib.hid hr
  have HSZ := Lib.hid hs
  clear hN hr hs
  go_enter Tryd.func11, Tryd.ntmps11
  go_wp2
  go_loopw [3, 4] (fun s3 s4 wr => ∃ (j : Nat) (R : List Lf), j = R.length ∧ j ≤ 8 ∧ j ≤ N ∧ s4 = .int .i64 j ∧ wr.ownsRow w.heap.size 87 2 s3 j (LC R) ∧ Hid (∀ x ∈ R, x.1.size ≤ 40 ∧ x.2.size ≤ 40) ∧ Below w.heap.size w wr)
    (fun _ s4 _ => 8 - (intOf s4).toNat)
  case atStart => exact ⟨0, [], rfl, by omega, Nat.zero_le _, rfl, World.ownsRow_nil _ _ _ _, Lib.hid (by simp), Below.refl _ _⟩
  case round =>
    obtain ⟨j, R, hjR, hj8, hjN, rfl, ho, HZ, hb⟩ := hrel
    have HJ := Lib.hid hjR
    clear hjR
    by_cases hlt : j < N ∧ j < 8
    · have hjl : j < raw.length := by have := HN.out; omega
      obtain ⟨g, o, rfl, hg, hcell⟩ := HR.out (by intro e; have := congrArg List.length e; rw [LC_len] at this; simp only [List.length_nil] at this; omega)
      have hat := LC_at raw j hjl
      obtain ⟨k, hk⟩ : ∃ k, k = raw[j].1 := ⟨_, rfl⟩
      obtain ⟨v, hv⟩ : ∃ v, v = raw[j].2 := ⟨_, rfl⟩
      have HKS := Lib.hid (show k.size ≤ 9223372036854775807 ∧ v.size ≤ 9223372036854775807 by rw [hk, hv]; exact HSZ.out _ (List.getElem_mem _))
      rw [← hk, ← hv] at hat
      have HSw := Lib.hid (show LfAt g o j k v w from ⟨hcell _ _ hat.1, hcell _ _ hat.2⟩)
      have HS := Lib.hid (HSw.out.below hb)
      have HO := Lib.hid ho
      have HB := Lib.hid hb
      have i1 : (j : Int) < (N : Int) := by omega
      have i2 : (j : Int) < 8 := by omega
      clear hat hk hv hcell ho hb hg hjl
      go_wp2
      refine wp_region_held (S := fun W => LfAt g o j k v W) (by kernel_rfl) ?_
      change wpAnyH _ _ _ _ _ _ _ _ (World.drew wr)
      have hS0 : LfAt g o j k v (World.drew wr) := HS.out
      have BD : Below w.heap.size w (World.drew wr) := (HB.out).drew
      have OD : (World.drew wr).ownsRow w.heap.size 87 2 u3 j (LC R) := (HO.out).drew
      generalize World.drew wr = Wd at hS0 BD OD ⊢
      replace BD := Lib.hid BD
      replace OD := Lib.hid OD
      refine wpAnyH_take (i := 0) (oi := { dst := some 15, op := Op.move (Operand.tmp 3), type := 24, pos := "law.go:72", after := #[], guard := none }) (v := u3) rfl (by kernel_rfl) (by kernel_rfl) (by kernel_rfl) (fun _ _ _ h => h) (Or.inl ⟨by rfl, fun W hW => ?y1⟩) hS0 ?_
      case y1 => go_simp
      try dsimp only [Act.put]
      try simp only [List.setIfInBounds_toArray, List.set_cons_zero, List.set_cons_succ]
      refine wpAnyH_take (i := 1) (oi := { dst := some 16, op := Op.move (Operand.tmp 0), type := 23, pos := "law.go:72", after := #[], guard := none }) (v := .slice (some ⟨g, o, none⟩) N c) rfl (by kernel_rfl) (by kernel_rfl) (by kernel_rfl) (fun _ _ _ h => h) (Or.inl ⟨by rfl, fun W hW => ?y2⟩) hS0 ?_
      case y2 => go_simp
      try dsimp only [Act.put]
      try simp only [List.setIfInBounds_toArray, List.set_cons_zero, List.set_cons_succ]
      refine wpAnyH_take (i := 2) (oi := { dst := some 17, op := Op.move (Operand.tmp 4), type := 3, pos := "law.go:72", after := #[], guard := none }) (v := .int .i64 (j : Int)) rfl (by kernel_rfl) (by kernel_rfl) (by kernel_rfl) (fun _ _ _ h => h) (Or.inl ⟨by rfl, fun W hW => ?y3⟩) hS0 ?_
      case y3 => go_simp
      try dsimp only [Act.put]
      try simp only [List.setIfInBounds_toArray, List.set_cons_zero, List.set_cons_succ]
      refine wpAnyH_take (i := 3) (oi := { dst := some 18, op := Op.indexAddr 23 (Operand.tmp 16) (Operand.tmp 17), type := 0, pos := "law.go:72", after := #[{ on := 1, ground := Ground.data }, { on := 2, ground := Ground.data }], guard := none }) (v := .pointer (some ⟨g, o + j * 2, none⟩)) rfl (by kernel_rfl) (by kernel_rfl) (by kernel_rfl) (fun _ _ _ h => h) (Or.inl ⟨by rfl, fun W hW => ?y4⟩) hS0 ?_
      case y4 => go_simp
      try dsimp only [Act.put]
      try simp only [List.setIfInBounds_toArray, List.set_cons_zero, List.set_cons_succ]
      refine wpAnyH_take (i := 4) (oi := { dst := some 19, op := Op.indexAddr 97 (Operand.tmp 18) (Operand.const (Value.int IntKind.i64 0)), type := 0, pos := "law.go:72", after := #[{ on := 3, ground := Ground.data }], guard := none }) (v := .pointer (some ⟨g, o + j * 2, none⟩)) rfl (by kernel_rfl) (by kernel_rfl) (by kernel_rfl) (fun _ _ _ h => h) (Or.inl ⟨by rfl, fun W hW => ?y5⟩) hS0 ?_
      case y5 => go_simp
      try dsimp only [Act.put]
      try simp only [List.setIfInBounds_toArray, List.set_cons_zero, List.set_cons_succ]
      refine wpAnyH_take (i := 5) (oi := { dst := some 20, op := Op.load 9 (Operand.tmp 19), type := 9, pos := "law.go:72", after := #[{ on := 4, ground := Ground.data }], guard := none }) (v := .string k) rfl (by kernel_rfl) (by kernel_rfl) (by kernel_rfl) (fun _ _ _ h => h) (Or.inl ⟨by rfl, fun W hW => by have hcl := hW.1; go_simp⟩) hS0 ?_
      try dsimp only [Act.put]
      try simp only [List.setIfInBounds_toArray, List.set_cons_zero, List.set_cons_succ]
      refine wpAnyH_take (i := 7) (oi := { dst := some 22, op := Op.move (Operand.tmp 0), type := 23, pos := "law.go:72", after := #[], guard := none }) (v := .slice (some ⟨g, o, none⟩) N c) rfl (by kernel_rfl) (by kernel_rfl) (by kernel_rfl) (fun _ _ _ h => h) (Or.inl ⟨by rfl, fun W hW => ?y7⟩) hS0 ?_
      case y7 => go_simp
      try dsimp only [Act.put]
      try simp only [List.setIfInBounds_toArray, List.set_cons_zero, List.set_cons_succ]
      refine wpAnyH_take (i := 8) (oi := { dst := some 23, op := Op.move (Operand.tmp 4), type := 3, pos := "law.go:72", after := #[], guard := none }) (v := .int .i64 (j : Int)) rfl (by kernel_rfl) (by kernel_rfl) (by kernel_rfl) (fun _ _ _ h => h) (Or.inl ⟨by rfl, fun W hW => ?y8⟩) hS0 ?_
      case y8 => go_simp
      try dsimp only [Act.put]
      try simp only [List.setIfInBounds_toArray, List.set_cons_zero, List.set_cons_succ]
      refine wpAnyH_take (i := 9) (oi := { dst := some 24, op := Op.indexAddr 23 (Operand.tmp 22) (Operand.tmp 23), type := 0, pos := "law.go:72", after := #[{ on := 7, ground := Ground.data }, { on := 8, ground := Ground.data }], guard := none }) (v := .pointer (some ⟨g, o + j * 2, none⟩)) rfl (by kernel_rfl) (by kernel_rfl) (by kernel_rfl) (fun _ _ _ h => h) (Or.inl ⟨by rfl, fun W hW => ?y9⟩) hS0 ?_
      case y9 => go_simp
      try dsimp only [Act.put]
      try simp only [List.setIfInBounds_toArray, List.set_cons_zero, List.set_cons_succ]
      refine wpAnyH_take (i := 10) (oi := { dst := some 25, op := Op.indexAddr 97 (Operand.tmp 24) (Operand.const (Value.int IntKind.i64 1)), type := 0, pos := "law.go:72", after := #[{ on := 9, ground := Ground.data }], guard := none }) (v := .pointer (some ⟨g, o + j * 2 + 1, none⟩)) rfl (by kernel_rfl) (by kernel_rfl) (by kernel_rfl) (fun _ _ _ h => h) (Or.inl ⟨by rfl, fun W hW => ?y10⟩) hS0 ?_
      case y10 => go_simp
      try dsimp only [Act.put]
      try simp only [List.setIfInBounds_toArray, List.set_cons_zero, List.set_cons_succ]
      refine wpAnyH_take (i := 11) (oi := { dst := some 26, op := Op.load 9 (Operand.tmp 25), type := 9, pos := "law.go:72", after := #[{ on := 10, ground := Ground.data }], guard := none }) (v := .string v) rfl (by kernel_rfl) (by kernel_rfl) (by kernel_rfl) (fun _ _ _ h => h) (Or.inl ⟨by rfl, fun W hW => by have hcl := hW.2; go_simp⟩) hS0 ?_
      try dsimp only [Act.put]
      try simp only [List.setIfInBounds_toArray, List.set_cons_zero, List.set_cons_succ]
      refine wpAnyH_ready (rs := [6]) (by kernel_rfl) (by simp) ?_
      refine AllReadyH.cons (o := { dst := some 21, op := Op.call { callee := Callee.value (Operand.func 21), args := #[Operand.tmp 20, Operand.const (Value.int IntKind.i64 40)], argTypes := #[9, 3] }, type := 9, pos := "law.go:72", after := #[{ on := 5, ground := Ground.data }], guard := none }) rfl (fun K hK => ?_) AllReadyH.nil
      rw [if_pos (by rfl)]
      go_simp
      refine (short_any k 40 _ HKS.out.1 (by decide)).mono ?_; rintro e wx ⟨p12, rfl, hzp12, rfl⟩
      go_wp2_with fail
      refine hK.out _ _ hS0 (fun _ => ?_)
      clear hK K
      try dsimp only [Act.put]
      try simp only [List.setIfInBounds_toArray, List.set_cons_zero, List.set_cons_succ]
      refine wpAnyH_ready (rs := [12]) (by kernel_rfl) (by simp) ?_
      refine AllReadyH.cons (o := { dst := some 27, op := Op.call { callee := Callee.value (Operand.func 21), args := #[Operand.tmp 26, Operand.const (Value.int IntKind.i64 40)], argTypes := #[9, 3] }, type := 9, pos := "law.go:72", after := #[{ on := 11, ground := Ground.data }, { on := 6, ground := Ground.chain }], guard := none }) rfl (fun K hK => ?_) AllReadyH.nil
      rw [if_pos (by rfl)]
      go_simp
      refine (short_any v 40 _ HKS.out.2 (by decide)).mono ?_; rintro e wx ⟨q13, rfl, hzq13, rfl⟩
      go_wp2_with fail
      refine hK.out _ _ hS0 (fun _ => ?_)
      clear hK K
      try dsimp only [Act.put]
      try simp only [List.setIfInBounds_toArray, List.set_cons_zero, List.set_cons_succ]
      refine wpAnyH_take (i := 13) (oi := { dst := some 28, op := Op.build 87 #[(0, Operand.tmp 21), (1, Operand.tmp 27)], type := 87, pos := "law.go:72", after := #[{ on := 6, ground := Ground.data }, { on := 12, ground := Ground.data }], guard := none }) (v := .agg #[.string p12, .string q13]) rfl (by kernel_rfl) (by kernel_rfl) (by kernel_rfl) (fun _ _ _ h => h) (Or.inl ⟨by rfl, fun W hW => ?y14⟩) hS0 ?_
      case y14 => go_simp
      try dsimp only [Act.put]
      try simp only [List.setIfInBounds_toArray, List.set_cons_zero, List.set_cons_succ]
      refine wpAnyH_ready (rs := [14]) (by kernel_rfl) (by simp) ?_
      refine AllReadyH.cons (o := { dst := some 29, op := Op.buildSlice 24 1 #[(0, Operand.tmp 28)], type := 24, pos := "law.go:72", after := #[{ on := 13, ground := Ground.data }], guard := none }) rfl (fun K hK => ?_) AllReadyH.nil
      rw [if_pos (by rfl)]
      go_simp
      have HB2 := Lib.hid ((Below.refl Wd.heap.size Wd).alloc (Nat.le_refl _) (.cells #[.string p12, .string q13] 87))
      have B2 := Lib.hid (BD.out.trans (HB2.out.mono BD.out.size))
      have hS2 := HSw.out.below B2.out
      have O2 := Lib.hid (OD.out.alloc (.cells #[.string p12, .string q13] 87))
      have R2 := Lib.hid (rd_new Wd (LC [(p12, q13)]) 87)
      refine hK.out _ _ hS2 (fun _ => ?_)
      clear hK K
      try dsimp only [Act.put]
      try simp only [List.setIfInBounds_toArray, List.set_cons_zero, List.set_cons_succ]
      refine wpAnyH_ready (rs := [15]) (by kernel_rfl) (by simp) ?_
      refine AllReadyH.cons (o := { dst := some 30, op := Op.call { callee := Callee.builtin Builtin.append, args := #[Operand.tmp 15, Operand.tmp 29], argTypes := #[24, 24] }, type := 24, pos := "law.go:72", after := #[{ on := 0, ground := Ground.data }, { on := 14, ground := Ground.data }, { on := 12, ground := Ground.chain }], guard := none }) rfl (fun K hK => ?_) AllReadyH.nil
      rw [if_pos (by rfl)]
      refine wp_append_leaves (T := 24) (e := 87) (by kernel_rfl) info87 (.tmp 15) (.tmp 29) rfl w.heap.size u3 j (LC R) rfl O2.out (some ⟨Wd.heap.size, 0, none⟩) 1 1 _ [(p12, q13)] rfl (fun e => by cases e) rfl R2.out (by omega) B2.out.size ?_
      intro v3 w3 O3 G3
      have B3 := Lib.hid (below_app B2.out O2.out G3)
      have hS3 := HSw.out.below B3.out
      refine hK.out _ _ hS3 (fun _ => ?_)
      clear hK K
      try dsimp only [Act.put]
      try simp only [List.setIfInBounds_toArray, List.set_cons_zero, List.set_cons_succ]
      refine wpAnyH_ready (rs := [16]) (by kernel_rfl) (by simp) ?_
      refine AllReadyH.cons (o := { dst := some 3, op := Op.assign (Operand.tmp 30), type := 24, pos := "law.go:72", after := #[{ on := 15, ground := Ground.data }, { on := 15, ground := Ground.chain }, { on := 0, ground := Ground.phase }, { on := 1, ground := Ground.phase }, { on := 2, ground := Ground.phase }, { on := 3, ground := Ground.phase }, { on := 4, ground := Ground.phase }, { on := 5, ground := Ground.phase }, { on := 6, ground := Ground.phase }, { on := 7, ground := Ground.phase }, { on := 8, ground := Ground.phase }, { on := 9, ground := Ground.phase }, { on := 10, ground := Ground.phase }, { on := 11, ground := Ground.phase }, { on := 12, ground := Ground.phase }, { on := 13, ground := Ground.phase }, { on := 14, ground := Ground.phase }, { on := 15, ground := Ground.phase }], guard := none }) rfl (fun K hK => ?_) AllReadyH.nil
      rw [if_pos (by rfl)]
      go_simp
      refine hK.out _ _ hS3 (fun _ => ?_)
      clear hK K
      try dsimp only [Act.put]
      try simp only [List.setIfInBounds_toArray, List.set_cons_zero, List.set_cons_succ]
      refine wpAnyH_done (by kernel_rfl) ?_ _
      try dsimp only [Act.put]
      try simp only [List.setIfInBounds_toArray, List.set_cons_zero, List.set_cons_succ]
      go_wp2
      go_roundw
      case rel => exact ⟨j + 1, R ++ [(p12, q13)], by rw [List.length_append, ← HJ.out]; rfl, by omega, by omega, by go_num, by rw [LC_append]; exact O3, Lib.hid (fun x hx => by
        rcases List.mem_append.1 hx with h | h
        · exact HZ.out x h
        · rw [List.mem_singleton.1 h]; exact ⟨hzp12, hzq13⟩), B3.out⟩
      case measure => simp only [intOf]; omega
    · have hcs : ¬ j < N ∨ (j < N ∧ ¬ j < 8) := by omega
      rcases hcs with h | ⟨h, h'⟩
      · have i1 : ¬ (j : Int) < (N : Int) := by omega
        go_wp2
        go_ret
        obtain ⟨A', c', rfl, h1, h2, h3⟩ := own_form ho
        exact ⟨R, A', c', by rw [← HJ.out]; exact hj8, HZ.out, by rw [← HJ.out]; rfl, by rw [← HJ.out]; exact h1, h2, h3, hb⟩
      · have i1 : (j : Int) < (N : Int) := by omega
        have i2 : ¬ (j : Int) < 8 := by omega
        go_wp2
        go_ret
        obtain ⟨A', c', rfl, h1, h2, h3⟩ := own_form ho
        exact ⟨R, A', c', by rw [← HJ.out]; exact hj8, HZ.out, by rw [← HJ.out]; rfl, by rw [← HJ.out]; exact h1, h2, h3, hb⟩
end Go.Proofs.YtofccgkgjcnfbaaDoor
