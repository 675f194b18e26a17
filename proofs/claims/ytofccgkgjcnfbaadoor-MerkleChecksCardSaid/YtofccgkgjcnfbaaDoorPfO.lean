/-
  The law's own with own rows behind; the law's proof.
  Conditions: at most 2^30 leaves.
-/
import Derived.Test.YtofccgkgjcnfbaaDoorGen
import Derived.Test.YtofccgkgjcnfbaaDoorRProve
import Derived.Test.YtofccgkgjcnfbaaDoorEqT
namespace Go.Proofs.YtofccgkgjcnfbaaDoor
open Go.RowKit Wr Sh
set_option linter.unusedVariables false
set_option maxRecDepth 100000

set_option maxHeartbeats 2000000 in
theorem own_r (A : Option Addr) (L : List Lf) (c : Nat) (w : World) (hl : L.length ≤ 1073741824) (hr : Rd w w.heap.size A (LC L)) :
    Calls Tryd.prog 13 #[.slice A L.length c] w fun e w' => ∃ v, e = .returned v ∧ w'.ownsRow w.heap.size 41 2 v L.length (LC L) ∧ Below w.heap.size w w' := by
  obtain ⟨N, hN⟩ : ∃ N, N = L.length := ⟨_, rfl⟩
  rw [← hN] at hl ⊢
  have HN := Lib.hid hN
  have HR := Lib.hid hr
  clear hN hr
  go_enter Tryd.func13, Tryd.ntmps13
  go_wp2
  go_loopw [3, 4] (fun s3 s4 wr => ∃ j : Nat, j ≤ N ∧ s4 = .int .i64 j ∧ wr.ownsRow w.heap.size 41 2 s3 j (LC (L.take j)) ∧ Below w.heap.size w wr)
    (fun _ s4 _ => N - (intOf s4).toNat)
  case atStart => exact ⟨0, Nat.zero_le _, rfl, World.ownsRow_nil _ _ _ _, Below.refl _ _⟩
  case round =>
    obtain ⟨j, hj, rfl, ho, hb⟩ := hrel
    by_cases hlt : j < N
    · have hjl : j < L.length := by have := HN.out; omega
      obtain ⟨g, o, rfl, hg, hcell⟩ := HR.out (by intro e; have := congrArg List.length e; rw [LC_len] at this; simp only [List.length_nil] at this; omega)
      have hat := LC_at L j hjl
      obtain ⟨k, hk⟩ : ∃ k, k = L[j].1 := ⟨_, rfl⟩
      obtain ⟨v, hv⟩ : ∃ v, v = L[j].2 := ⟨_, rfl⟩
      have HT := Lib.hid (show L.take (j + 1) = L.take j ++ [(k, v)] by rw [List.take_succ_eq_append_getElem hjl, hk, hv])
      rw [← hk, ← hv] at hat
      have HSw := Lib.hid (show LfAt g o j k v w from ⟨hcell _ _ hat.1, hcell _ _ hat.2⟩)
      have HS := Lib.hid (HSw.out.below hb)
      have HO := Lib.hid ho
      have HB := Lib.hid hb
      clear hat hk hv hcell ho hb hg hjl
      go_wp2
      refine wp_region_held (S := fun W => LfAt g o j k v W) (by kernel_rfl) ?_
      change wpAnyH _ _ _ _ _ _ _ _ (World.drew wr)
      have hS0 : LfAt g o j k v (World.drew wr) := HS.out
      have BD : Below w.heap.size w (World.drew wr) := (HB.out).drew
      have OD : (World.drew wr).ownsRow w.heap.size 41 2 u3 j (LC (L.take j)) := (HO.out).drew
      generalize World.drew wr = Wd at hS0 BD OD ⊢
      replace BD := Lib.hid BD
      replace OD := Lib.hid OD
      refine wpAnyH_take (i := 0) (oi := { dst := some 11, op := Op.move (Operand.tmp 3), type := 33, pos := "law.go:44", after := #[], guard := none }) (v := u3) rfl (by kernel_rfl) (by kernel_rfl) (by kernel_rfl) (fun _ _ _ h => h) (Or.inl ⟨by rfl, fun W hW => ?y1⟩) hS0 ?_
      case y1 => go_simp
      (try dsimp only [Act.put]); try simp only [z1, z2, z3]
      refine wpAnyH_take (i := 1) (oi := { dst := some 12, op := Op.move (Operand.tmp 0), type := 24, pos := "law.go:44", after := #[], guard := none }) (v := .slice (some ⟨g, o, none⟩) N c) rfl (by kernel_rfl) (by kernel_rfl) (by kernel_rfl) (fun _ _ _ h => h) (Or.inl ⟨by rfl, fun W hW => ?y2⟩) hS0 ?_
      case y2 => go_simp
      (try dsimp only [Act.put]); try simp only [z1, z2, z3]
      refine wpAnyH_take (i := 2) (oi := { dst := some 13, op := Op.move (Operand.tmp 4), type := 3, pos := "law.go:44", after := #[], guard := none }) (v := .int .i64 (j : Int)) rfl (by kernel_rfl) (by kernel_rfl) (by kernel_rfl) (fun _ _ _ h => h) (Or.inl ⟨by rfl, fun W hW => ?y3⟩) hS0 ?_
      case y3 => go_simp
      (try dsimp only [Act.put]); try simp only [z1, z2, z3]
      refine wpAnyH_take (i := 3) (oi := { dst := some 14, op := Op.indexAddr 24 (Operand.tmp 12) (Operand.tmp 13), type := 0, pos := "law.go:44", after := #[{ on := 1, ground := Ground.data }, { on := 2, ground := Ground.data }], guard := none }) (v := .pointer (some ⟨g, o + j * 2, none⟩)) rfl (by kernel_rfl) (by kernel_rfl) (by kernel_rfl) (fun _ _ _ h => h) (Or.inl ⟨by rfl, fun W hW => ?y4⟩) hS0 ?_
      case y4 => go_simp
      (try dsimp only [Act.put]); try simp only [z1, z2, z3]
      refine wpAnyH_take (i := 4) (oi := { dst := some 15, op := Op.fieldAddr 87 (Operand.tmp 14) 0, type := 0, pos := "law.go:44", after := #[{ on := 3, ground := Ground.data }], guard := none }) (v := .pointer (some ⟨g, o + j * 2, none⟩)) rfl (by kernel_rfl) (by kernel_rfl) (by kernel_rfl) (fun _ _ _ h => h) (Or.inl ⟨by rfl, fun W hW => ?y5⟩) hS0 ?_
      case y5 => go_simp
      (try dsimp only [Act.put]); try simp only [z1, z2, z3]
      refine wpAnyH_take (i := 5) (oi := { dst := some 16, op := Op.load 9 (Operand.tmp 15), type := 9, pos := "law.go:44", after := #[{ on := 4, ground := Ground.data }], guard := none }) (v := .string k) rfl (by kernel_rfl) (by kernel_rfl) (by kernel_rfl) (fun _ _ _ h => h) (Or.inl ⟨by rfl, fun W hW => by have hcl := hW.1; go_simp⟩) hS0 ?_
      (try dsimp only [Act.put]); try simp only [z1, z2, z3]
      refine wpAnyH_take (i := 6) (oi := { dst := some 17, op := Op.move (Operand.tmp 0), type := 24, pos := "law.go:44", after := #[], guard := none }) (v := .slice (some ⟨g, o, none⟩) N c) rfl (by kernel_rfl) (by kernel_rfl) (by kernel_rfl) (fun _ _ _ h => h) (Or.inl ⟨by rfl, fun W hW => ?y7⟩) hS0 ?_
      case y7 => go_simp
      (try dsimp only [Act.put]); try simp only [z1, z2, z3]
      refine wpAnyH_take (i := 7) (oi := { dst := some 18, op := Op.move (Operand.tmp 4), type := 3, pos := "law.go:44", after := #[], guard := none }) (v := .int .i64 (j : Int)) rfl (by kernel_rfl) (by kernel_rfl) (by kernel_rfl) (fun _ _ _ h => h) (Or.inl ⟨by rfl, fun W hW => ?y8⟩) hS0 ?_
      case y8 => go_simp
      (try dsimp only [Act.put]); try simp only [z1, z2, z3]
      refine wpAnyH_take (i := 8) (oi := { dst := some 19, op := Op.indexAddr 24 (Operand.tmp 17) (Operand.tmp 18), type := 0, pos := "law.go:44", after := #[{ on := 6, ground := Ground.data }, { on := 7, ground := Ground.data }], guard := none }) (v := .pointer (some ⟨g, o + j * 2, none⟩)) rfl (by kernel_rfl) (by kernel_rfl) (by kernel_rfl) (fun _ _ _ h => h) (Or.inl ⟨by rfl, fun W hW => ?y9⟩) hS0 ?_
      case y9 => go_simp
      (try dsimp only [Act.put]); try simp only [z1, z2, z3]
      refine wpAnyH_take (i := 9) (oi := { dst := some 20, op := Op.fieldAddr 87 (Operand.tmp 19) 1, type := 0, pos := "law.go:44", after := #[{ on := 8, ground := Ground.data }], guard := none }) (v := .pointer (some ⟨g, o + j * 2 + 1, none⟩)) rfl (by kernel_rfl) (by kernel_rfl) (by kernel_rfl) (fun _ _ _ h => h) (Or.inl ⟨by rfl, fun W hW => ?y10⟩) hS0 ?_
      case y10 => go_simp
      (try dsimp only [Act.put]); try simp only [z1, z2, z3]
      refine wpAnyH_take (i := 10) (oi := { dst := some 21, op := Op.load 9 (Operand.tmp 20), type := 9, pos := "law.go:44", after := #[{ on := 9, ground := Ground.data }], guard := none }) (v := .string v) rfl (by kernel_rfl) (by kernel_rfl) (by kernel_rfl) (fun _ _ _ h => h) (Or.inl ⟨by rfl, fun W hW => by have hcl := hW.2; go_simp⟩) hS0 ?_
      (try dsimp only [Act.put]); try simp only [z1, z2, z3]
      refine wpAnyH_take (i := 11) (oi := { dst := some 22, op := Op.build 41 #[(0, Operand.tmp 16), (1, Operand.tmp 21)], type := 41, pos := "law.go:44", after := #[{ on := 5, ground := Ground.data }, { on := 10, ground := Ground.data }], guard := none }) (v := .agg #[.string k, .string v]) rfl (by kernel_rfl) (by kernel_rfl) (by kernel_rfl) (fun _ _ _ h => h) (Or.inl ⟨by rfl, fun W hW => ?y12⟩) hS0 ?_
      case y12 => go_simp
      (try dsimp only [Act.put]); try simp only [z1, z2, z3]
      refine wpAnyH_ready (rs := [12]) (by kernel_rfl) (by simp) ?_
      refine AllReadyH.cons (o := { dst := some 23, op := Op.buildSlice 33 1 #[(0, Operand.tmp 22)], type := 33, pos := "law.go:44", after := #[{ on := 11, ground := Ground.data }], guard := none }) rfl (fun K hK => ?_) AllReadyH.nil
      rw [if_pos (by rfl)]
      go_simp
      have HB2 := Lib.hid ((Below.refl Wd.heap.size Wd).alloc (Nat.le_refl _) (.cells #[.string k, .string v] 41))
      have B2 := Lib.hid (BD.out.trans (HB2.out.mono BD.out.size))
      have hS2 := HSw.out.below B2.out
      have O2 := Lib.hid (OD.out.alloc (.cells #[.string k, .string v] 41))
      have R2 := Lib.hid (rd_new Wd (LC [(k, v)]) 41)
      refine hK.out _ _ hS2 (fun _ => ?_)
      clear hK K
      (try dsimp only [Act.put]); try simp only [z1, z2, z3]
      refine wpAnyH_ready (rs := [13]) (by kernel_rfl) (by simp) ?_
      refine AllReadyH.cons (o := { dst := some 24, op := Op.call { callee := Callee.builtin Builtin.append, args := #[Operand.tmp 11, Operand.tmp 23], argTypes := #[33, 33] }, type := 33, pos := "law.go:44", after := #[{ on := 0, ground := Ground.data }, { on := 12, ground := Ground.data }], guard := none }) rfl (fun K hK => ?_) AllReadyH.nil
      rw [if_pos (by rfl)]
      refine wp_append_leaves (T := 33) (e := 41) (by kernel_rfl) info41 (.tmp 11) (.tmp 23) rfl w.heap.size u3 j (LC (L.take j)) rfl O2.out (some ⟨Wd.heap.size, 0, none⟩) 1 1 _ [(k, v)] rfl (fun e => by cases e) rfl R2.out (by omega) B2.out.size ?_
      intro v3 w3 O3 G3
      have B3 := Lib.hid (below_app B2.out O2.out G3)
      have hS3 := HSw.out.below B3.out
      refine hK.out _ _ hS3 (fun _ => ?_)
      clear hK K
      (try dsimp only [Act.put]); try simp only [z1, z2, z3]
      refine wpAnyH_ready (rs := [14]) (by kernel_rfl) (by simp) ?_
      refine AllReadyH.cons (o := { dst := some 3, op := Op.assign (Operand.tmp 24), type := 33, pos := "law.go:44", after := #[{ on := 13, ground := Ground.data }, { on := 13, ground := Ground.chain }, { on := 0, ground := Ground.phase }, { on := 1, ground := Ground.phase }, { on := 2, ground := Ground.phase }, { on := 3, ground := Ground.phase }, { on := 4, ground := Ground.phase }, { on := 5, ground := Ground.phase }, { on := 6, ground := Ground.phase }, { on := 7, ground := Ground.phase }, { on := 8, ground := Ground.phase }, { on := 9, ground := Ground.phase }, { on := 10, ground := Ground.phase }, { on := 11, ground := Ground.phase }, { on := 12, ground := Ground.phase }, { on := 13, ground := Ground.phase }], guard := none }) rfl (fun K hK => ?_) AllReadyH.nil
      rw [if_pos (by rfl)]
      go_simp
      refine hK.out _ _ hS3 (fun _ => ?_)
      clear hK K
      (try dsimp only [Act.put]); try simp only [z1, z2, z3]
      refine wpAnyH_done (by kernel_rfl) ?_ _
      (try dsimp only [Act.put]); try simp only [z1, z2, z3]
      go_wp2
      go_roundw
      case rel => exact ⟨j + 1, by omega, by go_num, by rw [HT.out, LC_append]; exact O3, B3.out⟩
      case measure => simp only [intOf]; omega
    · obtain rfl : j = N := by omega
      go_wp2
      go_ret
      have hT : L.take j = L := by rw [HN.out, List.take_length]
      rw [hT] at ho
      exact ⟨_, rfl, ho, hb⟩

/-- A proof, handed over. -/
def ModelP (w : World) (p : Pf) (A2 : Option Addr) (n m c2 : Nat) (e : Ending) (w' : World) : Prop :=
  ∃ A' c', e = .returned (.agg (PR p.first p.size (.slice A' n c') (.slice A2 m c2)).toArray) ∧ PfAt w' w'.heap.size p A' A2 c' c2 ∧ Below w.heap.size w w'
set_option maxHeartbeats 4000000 in
theorem pfOf_any (p : Pf) (A1 A2 : Option Addr) (n m c1 c2 : Nat) (w : World) (hn : n = p.leaves.length) (hm : m = p.sides.length) (hp : PfAt w w.heap.size p A1 A2 c1 c2) :
    Calls Tryd.prog 30 #[.agg (PR p.first p.size (.slice A1 n c1) (.slice A2 m c2)).toArray] w (ModelP w p A2 n m c2) := by
  obtain ⟨f, hf⟩ : ∃ f, f = p.first := ⟨_, rfl⟩
  obtain ⟨sz, hsz⟩ : ∃ f, f = p.size := ⟨_, rfl⟩
  have hZ := hZP
  have HP := Lib.hid hp
  have HN := Lib.hid hn
  have HC := Lib.hid (fun (W : World) (hb : Below w.heap.size w W) => show Calls Tryd.prog 13 #[.slice A1 n c1] W fun e w' => ∃ v, e = .returned v ∧ w'.ownsRow W.heap.size 41 2 v n (LC p.leaves) ∧ Below W.heap.size W w' from by
    rw [hn]; exact own_r A1 p.leaves c1 W hp.okl.1 ((hp.r1.below hb).more hb.size))
  have HPA := Lib.hid (fun (W : World) (A' : Option Addr) (c' : Nat) (hb : Below w.heap.size w W) (hr : Rd W W.heap.size A' (LC p.leaves)) (h1 : n ≤ c') (h2 : A' = none → c' = 0) => show PfAt W W.heap.size p A' A2 c' c2 from
    ⟨hr, (hp.r2.below hb).more hb.size, ⟨by rw [← hn]; exact h1, h2⟩, hp.k2, hp.okl, hp.oks, hp.oki⟩)
  unfold ModelP
  rw [← hf, ← hsz]
  obtain ⟨W1, hW1⟩ : ∃ W, W = (w.alloc (.cells (PR f sz (.slice A1 n c1) (.slice A2 m c2)).toArray 54)).alloc (.cells ZP.toArray 50) := ⟨_, rfl⟩
  have B1 := Lib.hid (show Below w.heap.size w W1 by rw [hW1]; exact ((Below.refl _ _).alloc (Nat.le_refl _) _).alloc (by simp) _)
  have HS1 := Lib.hid (show Blk W1 w.heap.size 54 (PR f sz (.slice A1 n c1) (.slice A2 m c2)) by rw [hW1]; exact (Blk.new w 54 _).alloc _)
  have Z1 := Lib.hid (show Blk W1 (w.heap.size + 1) 50 ZP by rw [hW1]; exact Blk.newAt _ _ 50 ZP (by simp))
  have HW := Lib.hid hW1
  clear hn hm hp hf hsz hW1
  go_enter Tryd.func30, Tryd.ntmps30
  go_upto_region 1 with fail
  first | rw [← HW.out] | (have hw := HW.out; simp only [PR] at hw; rw [← hw])
  refine wp_region_held (S := fun W => Blk W w.heap.size 54 (PR f sz (.slice A1 n c1) (.slice A2 m c2))) (by kernel_rfl) ?_
  change wpAnyH _ _ _ _ _ _ _ _ (World.drew W1)
  have hs0 : Blk (World.drew W1) w.heap.size 54 (PR f sz (.slice A1 n c1) (.slice A2 m c2)) := HS1.out
  have BD := Lib.hid B1.out.drew
  have ZD := Lib.hid (show Blk (World.drew W1) (w.heap.size + 1) 50 ZP from Z1.out)
  generalize World.drew W1 = Wd at hs0 BD ZD ⊢
  refine wpAnyH_take (i := 0) (oi := { dst := some 3, op := Op.fieldAddr 54 (Operand.tmp 1) 0, type := 0, pos := "law.go:60", after := #[], guard := none }) (v := .pointer (some ⟨w.heap.size, 0, none⟩)) rfl (by kernel_rfl) (by kernel_rfl) (by kernel_rfl) (fun _ _ _ h => h) (Or.inl ⟨by rfl, fun W hW => ?y1⟩) hs0 ?_
  case y1 => go_simp
  (try dsimp only [Act.put]); try simp only [z1, z2, z3]
  refine wpAnyH_take (i := 1) (oi := { dst := some 4, op := Op.load 3 (Operand.tmp 3), type := 3, pos := "law.go:60", after := #[{ on := 0, ground := Ground.data }], guard := none }) (v := .int .i64 f) rfl (by kernel_rfl) (by kernel_rfl) (by kernel_rfl) (fun _ _ _ h => h) (Or.inl ⟨by rfl, fun W hW => by have hcl : W.cell? ⟨w.heap.size, 0, none⟩ = _ := hW.cell 0; simp only [PR, List.getElem?_cons_zero] at hcl; go_simp⟩) hs0 ?_
  (try dsimp only [Act.put]); try simp only [z1, z2, z3]
  refine wpAnyH_take (i := 2) (oi := { dst := some 5, op := Op.fieldAddr 54 (Operand.tmp 1) 1, type := 0, pos := "law.go:60", after := #[], guard := none }) (v := .pointer (some ⟨w.heap.size, 1, none⟩)) rfl (by kernel_rfl) (by kernel_rfl) (by kernel_rfl) (fun _ _ _ h => h) (Or.inl ⟨by rfl, fun W hW => ?y3⟩) hs0 ?_
  case y3 => go_simp
  (try dsimp only [Act.put]); try simp only [z1, z2, z3]
  refine wpAnyH_take (i := 3) (oi := { dst := some 6, op := Op.load 3 (Operand.tmp 5), type := 3, pos := "law.go:60", after := #[{ on := 2, ground := Ground.data }], guard := none }) (v := .int .i64 sz) rfl (by kernel_rfl) (by kernel_rfl) (by kernel_rfl) (fun _ _ _ h => h) (Or.inl ⟨by rfl, fun W hW => by have hcl : W.cell? ⟨w.heap.size, 1, none⟩ = _ := hW.cell 1; simp only [PR, List.getElem?_cons_zero, List.getElem?_cons_succ] at hcl; go_simp⟩) hs0 ?_
  (try dsimp only [Act.put]); try simp only [z1, z2, z3]
  refine wpAnyH_take (i := 4) (oi := { dst := some 7, op := Op.fieldAddr 54 (Operand.tmp 1) 2, type := 0, pos := "law.go:60", after := #[], guard := none }) (v := .pointer (some ⟨w.heap.size, 2, none⟩)) rfl (by kernel_rfl) (by kernel_rfl) (by kernel_rfl) (fun _ _ _ h => h) (Or.inl ⟨by rfl, fun W hW => ?y5⟩) hs0 ?_
  case y5 => go_simp
  (try dsimp only [Act.put]); try simp only [z1, z2, z3]
  refine wpAnyH_take (i := 5) (oi := { dst := some 8, op := Op.load 24 (Operand.tmp 7), type := 24, pos := "law.go:60", after := #[{ on := 4, ground := Ground.data }], guard := none }) (v := .slice A1 n c1) rfl (by kernel_rfl) (by kernel_rfl) (by kernel_rfl) (fun _ _ _ h => h) (Or.inl ⟨by rfl, fun W hW => by have hcl : W.cell? ⟨w.heap.size, 2, none⟩ = _ := hW.cell 2; simp only [PR, List.getElem?_cons_zero, List.getElem?_cons_succ] at hcl; go_simp⟩) hs0 ?_
  (try dsimp only [Act.put]); try simp only [z1, z2, z3]
  refine wpAnyH_take (i := 7) (oi := { dst := some 10, op := Op.fieldAddr 54 (Operand.tmp 1) 3, type := 0, pos := "law.go:60", after := #[], guard := none }) (v := .pointer (some ⟨w.heap.size, 3, none⟩)) rfl (by kernel_rfl) (by kernel_rfl) (by kernel_rfl) (fun _ _ _ h => h) (Or.inl ⟨by rfl, fun W hW => ?y7⟩) hs0 ?_
  case y7 => go_simp
  (try dsimp only [Act.put]); try simp only [z1, z2, z3]
  refine wpAnyH_take (i := 8) (oi := { dst := some 11, op := Op.load 48 (Operand.tmp 10), type := 48, pos := "law.go:60", after := #[{ on := 7, ground := Ground.data }], guard := none }) (v := .slice A2 m c2) rfl (by kernel_rfl) (by kernel_rfl) (by kernel_rfl) (fun _ _ _ h => h) (Or.inl ⟨by rfl, fun W hW => by have hcl : W.cell? ⟨w.heap.size, 3, none⟩ = _ := hW.cell 3; simp only [PR, List.getElem?_cons_zero, List.getElem?_cons_succ] at hcl; go_simp⟩) hs0 ?_
  (try dsimp only [Act.put]); try simp only [z1, z2, z3]
  refine wpAnyH_ready (rs := [6]) (by kernel_rfl) (by simp) ?_
  refine AllReadyH.cons (o := { dst := some 9, op := Op.call { callee := Callee.value (Operand.func 13), args := #[Operand.tmp 8], argTypes := #[24] }, type := 33, pos := "law.go:60", after := #[{ on := 5, ground := Ground.data }], guard := none }) rfl (fun K hK => ?_) AllReadyH.nil
  rw [if_pos (by rfl)]
  have HCC := HC.out Wd BD.out
  go_simp
  refine HCC.mono ?_; rintro e w5 ⟨v5, rfl, ho5, hb5⟩
  obtain ⟨A', c', rfl, hcap, hnil, _⟩ := own_form ho5
  have hs5 := hs0.below hb5 hs0.lt
  have B5 := Lib.hid (BD.out.trans (hb5.mono BD.out.size))
  have Z5 := Lib.hid (ZD.out.below hb5 ZD.out.lt)
  have O5 := Lib.hid ho5
  have R5 := Lib.hid (And.intro hcap hnil)
  have N5 := Lib.hid (own_not (p := w.heap.size + 1) ho5 (.inl ZD.out.lt))
  clear HCC hb5 hcap hnil ho5
  go_wp2_with fail
  refine hK.out _ _ hs5 (fun _ => ?_)
  clear hK K
  (try dsimp only [Act.put]); try simp only [z1, z2, z3]
  refine wpAnyH_take (i := 9) (oi := { dst := some 12, op := Op.build 50 #[(0, Operand.tmp 4), (1, Operand.tmp 6), (2, Operand.tmp 9), (3, Operand.tmp 11)], type := 50, pos := "law.go:60", after := #[{ on := 1, ground := Ground.data }, { on := 3, ground := Ground.data }, { on := 6, ground := Ground.data }, { on := 8, ground := Ground.data }], guard := none }) (v := .agg (PR f sz (.slice A' n c') (.slice A2 m c2)).toArray) rfl (by kernel_rfl) (by kernel_rfl) (by kernel_rfl) (fun _ _ _ h => h) (Or.inl ⟨by rfl, fun W hW => by clear hZ; go_simp; rfl⟩) hs5 ?_
  (try dsimp only [Act.put]); try simp only [z1, z2, z3]
  refine wpAnyH_ready (rs := [10]) (by kernel_rfl) (by simp) ?_
  refine AllReadyH.cons (o := { dst := none, op := Op.store 50 (Operand.tmp 2) (Operand.tmp 12), type := 0, pos := "law.go:60", after := #[{ on := 9, ground := Ground.data }, { on := 6, ground := Ground.chain }, { on := 0, ground := Ground.phase }, { on := 1, ground := Ground.phase }, { on := 2, ground := Ground.phase }, { on := 3, ground := Ground.phase }, { on := 4, ground := Ground.phase }, { on := 5, ground := Ground.phase }, { on := 6, ground := Ground.phase }, { on := 7, ground := Ground.phase }, { on := 8, ground := Ground.phase }, { on := 9, ground := Ground.phase }], guard := none }) rfl (fun K hK => ?_) AllReadyH.nil
  rw [if_pos (by rfl)]
  have hs6 := hs5.setRow (show w.heap.size ≠ w.heap.size + 1 by omega) (PR f sz (.slice A' n c') (.slice A2 m c2)).toArray
  refine wp_store_row 50 (.tmp 2) (.tmp 12) rfl (w.heap.size + 1) (PR f sz (.slice A' n c') (.slice A2 m c2)).toArray rfl rfl 50 _ Z5.out (size50A _ _ _ _) (ZP_PR _ _ _ _) (PR_one _ _ _ _ _ _ _ _) ?_
  refine hK.out _ _ hs6 (fun _ => ?_)
  clear hK K
  (try dsimp only [Act.put]); try simp only [z1, z2, z3]
  refine wpAnyH_done (by kernel_rfl) ?_ _
  (try dsimp only [Act.put]); try simp only [z1, z2, z3]
  go_wp2_with fail
  refine bodyPost_ret (v := .agg (PR f sz (.slice A' n c') (.slice A2 m c2)).toArray) ?_ rfl ⟨_, _, rfl, HPA.out _ _ _ (belowRow B5.out (by omega) _) (Rd.of_own (own_setRow O5.out N5.out)) R5.out.1 R5.out.2, belowRow B5.out (by omega) _⟩
  have hr := run_loadVar_row (P := Tryd.prog) _ (w.heap.size + 1) 50 50 (PR f sz (.slice A' n c') (.slice A2 m c2)).toArray (0, 0) _ (heap_setRow w5 (w.heap.size + 1) (PR f sz (.slice A' n c') (.slice A2 m c2)).toArray _ 50 Z5.out) Tryd.underlying50 rfl (size50A _ _ _ _)
  simp [results, asAddr, hr]
theorem form_of {b : Nat} {W : World} {p : Pf} {v : Value} (h : ProofV b W p v) : ∃ A1 c1 A2 c2, v = .agg (PR p.first p.size (.slice A1 p.leaves.length c1) (.slice A2 p.sides.length c2)).toArray := by
  obtain ⟨A1, c1, A2, c2, e, _⟩ := h; exact ⟨A1, c1, A2, c2, e⟩
theorem pfAt_at {b : Nat} {W : World} {p : Pf} {A1 A2 : Option Addr} {n m c1 c2 : Nat} (h : ProofV b W p (.agg (PR p.first p.size (.slice A1 n c1) (.slice A2 m c2)).toArray)) (hf : Few p) : PfAt W W.heap.size p A1 A2 c1 c2 := by
  obtain ⟨B1, d1, B2, d2, e, h1, h2, h3, h4, _, h7⟩ := h
  simp only [PR, Value.agg.injEq, List.cons.injEq, Value.slice.injEq, and_true, true_and, Array.mk.injEq] at e
  obtain ⟨⟨rfl, rfl, rfl⟩, rfl, rfl, rfl⟩ := e
  exact ⟨h3, h4, h1, h2, hf.ok, ⟨by have := hf.sides; omega, h7⟩, hf.ints⟩
theorem few_prove_all (L : List Lf) (k : ByteArray) (hN : L.length ≤ 11) (hk : okL L) : Few (proveR node lf top L k).1 := by
  by_cases hv : validE L = 0
  · exact few_prove L k hN hk hv
  · unfold proveR; rw [if_neg hv]; exact few_noPf
theorem few_range_all (L : List Lf) (k t : ByteArray) (hN : L.length ≤ 11) (hk : okL L) : Few (rangeR node lf top L k t).1 := by
  by_cases hv : validE L = 0
  · exact few_range L k t hN hk hv
  · unfold rangeR; rw [if_neg hv]; exact few_noPf
end Go.Proofs.YtofccgkgjcnfbaaDoor
