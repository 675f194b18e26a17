/-
  Helpers of the law on a proof's bytes: the first bytes of a slice, what a decoded proof is like, a list of texts while it is made.
  Conditions: at most 2^20 bytes.
-/
import Derived.Test.YtofccgkgjcnfbaaDoorRDecW
import Derived.Test.YtofccgkgjcnfbaaDoorGPfOBentA
set_option linter.unusedSimpArgs false
namespace Go.Proofs.YtofccgkgjcnfbaaDoor
open Go.RowKit Wr Sh
set_option linter.unusedVariables false
set_option maxRecDepth 100000
theorem slice39_to (A : Option Addr) (n c k : Nat) (hk : k ≤ c) (W : World) : (Instr.sliceAt 39 (.slice A n c) none (some (.int .i64 (k : Int))) none).run Tryd.prog W = .ok (.slice A k c) W := by
 have hu : Tryd.prog.underlying 39 = some (.slice (Tryd.prog.elem 39)) := by kernel_rfl
 have he : Tryd.prog.elem 39 = 5 := by kernel_rfl
 have h5 : (sizeOf 5).run Tryd.prog W = .ok 1 W := by kernel_rfl
 rw [run_sliceAt_slice W 39 _ _ _ _ hu, run_slice_h W 39 A n c hu .i64 k (by omega) (by omega), he, h5]
 simp only [Result.andThen, sliced, Int.toNat_natCast, Nat.sub_zero]
 by_cases h0 : c = 0
 ·
  simp [h0]
 ·
  cases A with
  | none => simp [h0]
  | some ad => obtain ⟨g, o, x⟩ := ad; simp [h0, Addr.add]
set_option maxHeartbeats 4000000 in
theorem few39_any (A : Option Addr) (b : List UInt8) (c k : Nat) (w : World) (hr : Rd w w.heap.size A (B8 b)) (hc : b.length ≤ c) (hnil : A = none → c = 0) (hl : b.length ≤ 281474976710656) (hk : k ≤ 1000) :
  Calls Tryd.prog 39 #[.slice A b.length c, .int .i64 (k : Int)] w fun e w' => ∃ v, e = .returned v ∧ w'.ownsRow w.heap.size 5 1 v (b.take k).length (B8 (b.take k)) ∧ Below w.heap.size w w' := by
 obtain ⟨m, hm⟩ : ∃ m, m = min b.length k := ⟨_, rfl⟩
 have hlen : (b.take k).length = m := by rw [List.length_take, hm, Nat.min_comm]
 have HL := Lib.hid hlen
 have hsl := slice39_to A b.length c m (by omega)
 obtain ⟨n, hn⟩ : ∃ n, n = b.length := ⟨_, rfl⟩
 rw [← hn] at hsl hm hl hc ⊢
 have HSL := Lib.hid hsl
 have HR := Lib.hid (show Rd w w.heap.size A (B8 (b.take k)) by unfold B8; rw [List.map_take]; exact hr.take k)
 have HM := Lib.hid hm
 have hmk : m ≤ 1000 := by omega
 rw [hlen]
 clear hn hsl hlen hr
 by_cases hlt : n ≤ k
 ·
  have hmn : m = n := by omega
  subst hmn
  have hltI : (m : Int) ≤ (k : Int) := by omega
  have hmin : min (m : Int) (k : Int) = (m : Int) := by omega
  have hsl := HSL.out
  clear hm hlt
  go_enter Tryd.func39, Tryd.ntmps39
  go_wp2_with (at_builtin; refine wpList_append_rd rfl (.tmp 6) (.tmp 12) rfl w.heap.size (.slice none 0 0) 0 [] rfl (World.ownsRow_nil _ _ _ _) A m c _ (b.take k) rfl hnil HL.out HR.out (by omega) (Nat.le_refl _) ?_; intro v w2 ho hg)
  go_ret
  exact ⟨v, rfl, by rw [Nat.zero_add, List.nil_append] at ho; exact ho, (Below.refl _ _).grown hg (Nat.le_refl _) (by simp [Value.ownBlock])⟩
 ·
  have hmn : m = k := by omega
  subst hmn
  have hltI : ¬ (n : Int) ≤ (m : Int) := by omega
  have hmin : min (n : Int) (m : Int) = (m : Int) := by omega
  have hsl := HSL.out
  clear hm hlt
  go_enter Tryd.func39, Tryd.ntmps39
  go_wp2_with (at_builtin; refine wpList_append_rd rfl (.tmp 6) (.tmp 12) rfl w.heap.size (.slice none 0 0) 0 [] rfl (World.ownsRow_nil _ _ _ _) A m c _ (b.take m) rfl hnil HL.out HR.out (by omega) (Nat.le_refl _) ?_; intro v w2 ho hg)
  go_ret
  exact ⟨v, rfl, by rw [Nat.zero_add, List.nil_append] at ho; exact ho, (Below.refl _ _).grown hg (Nat.le_refl _) (by simp [Value.ownBlock])⟩
structure Dok (p : Pf) (N : Nat) : Prop where
 l : p.leaves.length ≤ N
 s : p.sides.length ≤ N
 z : ∀ x ∈ p.leaves, x.1.size ≤ N ∧ x.2.size ≤ N
 i : okInt p.first ∧ okInt p.size
theorem dok_no (N : Nat) : Dok noPf N := ⟨Nat.zero_le _, Nat.zero_le _, (fun x h => by cases h), ⟨⟨by decide, by decide⟩, ⟨by decide, by decide⟩⟩⟩
theorem flat_in {α : Type} (e : α → List UInt8) : ∀ (l : List α) (x : α), x ∈ l → (e x).length ≤ (l.map e).flatten.length
 | [], _, h => by cases h
 | y :: l, x, h => by
  rw [List.map_cons, List.flatten_cons, List.length_append]
  rcases List.mem_cons.1 h with rfl | h
  ·
   omega
  ·
   have := flat_in e l x h; omega
theorem unltx_mem : ∀ (T : List (List UInt8)) (x : Lf), x ∈ unltx T → ∃ a ∈ T, ∃ c ∈ T, x = (bs a, bs c)
 | [], _, h => by cases h
 | [_], _, h => by cases h
 | a :: c :: r, x, h => by
  rcases List.mem_cons.1 (show x ∈ (bs a, bs c) :: unltx r from h) with rfl | h
  ·
   exact ⟨a, List.mem_cons_self .., c, List.mem_cons_of_mem _ (List.mem_cons_self ..), rfl⟩
  ·
   obtain ⟨a', h1, c', h2, h3⟩ := unltx_mem r x h
   exact ⟨a', List.mem_cons_of_mem _ (List.mem_cons_of_mem _ h1), c', List.mem_cons_of_mem _ (List.mem_cons_of_mem _ h2), h3⟩
theorem unltx_len : ∀ T : List (List UInt8), (unltx T).length ≤ T.length
 | [] => Nat.le_refl _
 | [_] => Nat.zero_le _
 | a :: c :: r => by
  have := unltx_len r
  show ((bs a, bs c) :: unltx r).length ≤ _
  simp only [List.length_cons]; omega
theorem dec_ok (b : List UInt8) : Dok (decP b).1 b.length := by
 obtain ⟨xs, u, e1, h1⟩ : ∃ xs u e1, decInts b = (xs, u, e1) := ⟨_, _, _, rfl⟩
 obtain ⟨ss, u2, e2, h2⟩ : ∃ ss u2 e2, decStrs (b.drop u) = (ss, u2, e2) := ⟨_, _, _, rfl⟩
 obtain ⟨ds, u3, e3, h3⟩ : ∃ ds u3 e3, decDigs (b.drop (u + u2)) = (ds, u3, e3) := ⟨_, _, _, rfl⟩
 rw [decP_form b h1 h2 h3]
 by_cases c1 : e1 ≠ 0
 ·
  rw [if_pos c1]; exact dok_no _
 rw [if_neg c1]
 by_cases c2 : xs.length ≠ 2
 ·
  rw [if_pos c2]; exact dok_no _
 rw [if_neg c2]
 by_cases c3 : e2 ≠ 0
 ·
  rw [if_pos c3]; exact dok_no _
 rw [if_neg c3]
 by_cases c4 : ss.length % 2 ≠ 0
 ·
  rw [if_pos c4]; exact dok_no _
 rw [if_neg c4]
 by_cases c5 : e3 ≠ 0
 ·
  rw [if_pos c5]; exact dok_no _
 rw [if_neg c5]
 have z1 : e1 = 0 := by omega
 have z2 : e2 = 0 := by omega
 have z3 : e3 = 0 := by omega
 subst z1 z2 z3
 have f2 := list_few codecStr (b.drop u) ss u2 h2
 have f3 := list_few codecDig (b.drop (u + u2)) ds u3 h3
 rw [List.length_drop] at f2 f3
 obtain ⟨_, _, _, i1⟩ := list_back codecInt b xs u h1
 obtain ⟨_, _, g2, i2⟩ := list_back codecStr (b.drop u) ss u2 h2
 obtain ⟨x0, x1, hxx⟩ : ∃ x0 x1, xs = [x0, x1] := by
  have : xs.length = 2 := by omega
  match xs, this with
  | [a, b], _ => exact ⟨a, b, rfl⟩
 subst hxx
 have hs : ∀ s ∈ ss, s.length ≤ b.length := by
  intro s hs
  have := flat_in encStr ss s hs
  unfold encList at g2
  rw [List.length_append] at g2
  have h4 : s.length ≤ (encStr s).length := by unfold encStr; rw [List.length_append]; omega
  omega
 refine ⟨?_, ?_, ?_, i1 _ (List.mem_cons_self ..), i1 _ (List.mem_cons_of_mem _ (List.mem_cons_self ..))⟩
 ·
  have := unltx_len ss; show (unltx ss).length ≤ _; omega
 ·
  show ds.length ≤ _; omega
 ·
  intro x hx
  obtain ⟨a, ha, c, hc, rfl⟩ := unltx_mem ss x hx
  exact ⟨by show (bs a).size ≤ _; rw [bs_size]; exact hs a ha, by show (bs c).size ≤ _; rw [bs_size]; exact hs c hc⟩
theorem pv_dec {b0 : Nat} {W : World} {p : Pf} {v : Value} {M : Nat} (hd : Dok p M) (hM : M ≤ 1048576) (h : ProofV b0 W p v) :
  ∃ (A1 A2 : Option Addr) (n m c1 c2 : Nat), v = .agg (PR p.first p.size (.slice A1 n c1) (.slice A2 m c2)).toArray ∧ PV W W.heap.size M M p A1 A2 n m c1 c2 := by
 obtain ⟨A1, c1, A2, c2, rfl, h1, h2, h3, h4, _, h6⟩ := h
 exact ⟨A1, A2, _, _, c1, c2, rfl, ⟨⟨h3, h4, h1, h2, ⟨by have := hd.l; omega, fun x hx => by have := hd.z x hx; omega⟩, ⟨by have := hd.s; omega, h6⟩, hd.i⟩, rfl, rfl, hd.l, hd.s, hd.z⟩⟩
theorem wp_append_rd {w : World} {o : Oper} {a : Act} {K : Act → World → Prop} {Q : Exit → Act → World → Prop} (s x : Operand)
  (ho : o.op = .call { callee := .builtin .append, args := #[s, x], argTypes := #[39, 39] })
  (base : Nat) (v : Value) (n : Nat) (xs : List Value) (hs : a.eval s = v) (hown : w.ownsRow base 5 1 v n xs)
  (A : Option Addr) (m c B : Nat) (news : List UInt8) (hx : a.eval x = .slice A m c) (hnil : A = none → c = 0) (hl : news.length = m) (hr : Rd w B A (B8 news))
  (hbytes : n + m ≤ 140737488355328) (hbase : base ≤ w.heap.size)
  (h : ∀ v' w', w'.ownsRow base 5 1 v' (n + m) (xs ++ B8 news) → w.grownBy w' v.ownBlock → K (a.put o.dst v') w') : o.wp Tryd.prog a w K Q := by
 obtain ⟨i0, hi0, hz0, hz1, hz2⟩ := info_parts Tryd.info5
 by_cases hne : B8 news = []
 ·
  have hm : m = 0 := by rw [← hl, ← B8_len, hne]; rfl
  clear hl; subst hm
  cases A with
  | none =>
   have hc := hnil rfl
   subst hc
   refine Lib.wp_append_run w s x 39 39 ho v _ hs hx v w (run_append_owned_none w base 39 _ 5 i0 1 Tryd.underlying39 hi0 v n xs hown) (h v w ?_ (World.grownBy.refl _ _))
   rw [hne, List.append_nil, Nat.add_zero]; exact hown
  | some ad =>
   exact wp_append_own w s x 39 ho base 5 i0 (.int .u8 0) 1 1 Tryd.underlying39 hi0 hz0 hz1 hz2 rfl (by decide) v n xs hs hown ad 0 c (B8 news) hx (by rw [hne]; rfl) (fun j u hu => by rw [hne] at hu; simp at hu) (B8_one _) (by unfold maxLen; omega) (by omega) hbase (fun v' w' h1 h2 _ => h v' w' h1 h2)
 ·
  obtain ⟨g, off, rfl, hg, hcell⟩ := hr hne
  exact wp_append_own w s x 39 ho base 5 i0 (.int .u8 0) 1 1 Tryd.underlying39 hi0 hz0 hz1 hz2 rfl (by decide) v n xs hs hown ⟨g, off, none⟩ m c (B8 news) hx (by rw [B8_len, hl, Nat.mul_one]) (fun j u hu => by rw [Addr.add_lit]; exact hcell j u hu) (B8_one _) (by unfold maxLen; omega) (by omega) hbase (fun v' w' h1 h2 _ => h v' w' h1 h2)
theorem xor_code8 (a b : Int) : ∃ x : UInt8, bits .xor .u8 a b = (x.toNat : Int) := by
 refine ⟨UInt8.ofNat (bits .xor .u8 a b).toNat, ?_⟩
 have h : 0 ≤ bits .xor .u8 a b ∧ bits .xor .u8 a b < 256 := by
  show 0 ≤ IntKind.u8.wrap _ ∧ IntKind.u8.wrap _ < 256
  rw [IntKind.wrap_u8']; omega
 rw [UInt8.toNat_ofNat']
 omega
structure TqS (W0 : World) (bn : Int) (C : Prop) (F X Y S : List UInt8) (n cs : Nat) (pf px pa ps : Bool) (Af : Option Addr) (v : Value) (A14 : Option Addr) (As : Option Addr) (o10 o12 o15 o17 : Option Nat) (W : World) (bb : Nat) : Prop where
 b : Below W0.heap.size W0 W
 c : C
 h : W0.heap.size ≤ bb ∧ bb ≤ W.heap.size
 f : pf = true → Rd W bb Af (B8 F)
 x : px = true → W.ownsRow bb 5 1 v n (B8 X)
 a : pa = true → Rd W bb A14 (B8 Y)
 s : ps = true → Rd W W.heap.size As (B8 S) ∧ (As = none → cs = 0)
 o10 : ∀ g, o10 = some g → Blk W g 3 [.int .i64 bn]
 o12 : ∀ g, o12 = some g → Blk W g 9 [.string ⟨#[97]⟩]
 o15 : ∀ g, o15 = some g → Blk W g 3 [.int .i64 0, .int .i64 1]
 o17 : ∀ g, o17 = some g → Blk W g 9 [.string ⟨#[97]⟩]
def TeS (W0 : World) (bn : Int) (C : Prop) (F X Y S : List UInt8) (n cs : Nat) (pf px pa ps : Bool) (Af : Option Addr) (v : Value) (A14 : Option Addr) (As : Option Addr) (o10 o12 o15 o17 : Option Nat) (W : World) : Prop := ∃ bb, TqS W0 bn C F X Y S n cs pf px pa ps Af v A14 As o10 o12 o15 o17 W bb
section
variable {W0 W W' : World} {bn : Int} {C C' : Prop} {F X Y S X' S' Y' : List UInt8} {n n' cs cs' : Nat} {pf px pa ps : Bool} {bb : Nat} {Af A14 As A' : Option Addr} {v v' : Value} {o10 o12 o15 o17 : Option Nat}
theorem TqS.below (h : TqS W0 bn C F X Y S n cs pf px pa ps Af v A14 As o10 o12 o15 o17 W bb) (hb : Below W.heap.size W W') : TqS W0 bn C F X Y S n cs pf px pa ps Af v A14 As o10 o12 o15 o17 W' bb :=
 ⟨h.b.trans (hb.mono h.b.size), h.c, ⟨h.h.1, Nat.le_trans h.h.2 hb.size⟩, fun e => (h.f e).below (hb.mono h.h.2), fun e => own_below (h.x e) hb, fun e => (h.a e).below (hb.mono h.h.2), fun e => ⟨((h.s e).1.below hb).more hb.size, (h.s e).2⟩,
  fun g e => (h.o10 g e).below hb (h.o10 g e).lt, fun g e => (h.o12 g e).below hb (h.o12 g e).lt, fun g e => (h.o15 g e).below hb (h.o15 g e).lt, fun g e => (h.o17 g e).below hb (h.o17 g e).lt⟩
theorem TeS.start (W : World) (bn : Int) : TeS W bn True [] [] [] [] 0 0 false false false false none (.int .i64 0) none none none none none none W :=
 ⟨W.heap.size, Below.refl _ _, trivial, ⟨Nat.le_refl _, Nat.le_refl _⟩, fun e => (by cases e), fun e => (by cases e), fun e => (by cases e), fun e => (by cases e), fun _ e => (by cases e), fun _ e => (by cases e), fun _ e => (by cases e), fun _ e => (by cases e)⟩
theorem TeS.below (h : TeS W0 bn C F X Y S n cs pf px pa ps Af v A14 As o10 o12 o15 o17 W) (hb : Below W.heap.size W W') : TeS W0 bn C F X Y S n cs pf px pa ps Af v A14 As o10 o12 o15 o17 W' := h.imp fun _ t => t.below hb
theorem TeS.b (h : TeS W0 bn C F X Y S n cs pf px pa ps Af v A14 As o10 o12 o15 o17 W) : Below W0.heap.size W0 W := by obtain ⟨_, t⟩ := h; exact t.b
theorem TeS.b10 {g : Nat} (h : TeS W0 bn C F X Y S n cs pf px pa ps Af v A14 As (some g) o12 o15 o17 W) : Blk W g 3 [.int .i64 bn] := by obtain ⟨_, t⟩ := h; exact t.o10 g rfl
theorem TeS.b12 {g : Nat} (h : TeS W0 bn C F X Y S n cs pf px pa ps Af v A14 As o10 (some g) o15 o17 W) : Blk W g 9 [.string ⟨#[97]⟩] := by obtain ⟨_, t⟩ := h; exact t.o12 g rfl
theorem TeS.b15 {g : Nat} (h : TeS W0 bn C F X Y S n cs pf px pa ps Af v A14 As o10 o12 (some g) o17 W) : Blk W g 3 [.int .i64 0, .int .i64 1] := by obtain ⟨_, t⟩ := h; exact t.o15 g rfl
theorem TeS.b17 {g : Nat} (h : TeS W0 bn C F X Y S n cs pf px pa ps Af v A14 As o10 o12 o15 (some g) W) : Blk W g 9 [.string ⟨#[97]⟩] := by obtain ⟨_, t⟩ := h; exact t.o17 g rfl
theorem TeS.p10 (h : TeS W0 bn C F X Y S n cs pf px pa ps Af v A14 As o10 o12 o15 o17 W) {g : Nat} (hg : Blk W g 3 [.int .i64 bn]) : TeS W0 bn C F X Y S n cs pf px pa ps Af v A14 As (some g) o12 o15 o17 W := h.imp fun _ t => { t with o10 := fun g' e => by cases e; exact hg }
theorem TeS.p12 (h : TeS W0 bn C F X Y S n cs pf px pa ps Af v A14 As o10 o12 o15 o17 W) {g : Nat} (hg : Blk W g 9 [.string ⟨#[97]⟩]) : TeS W0 bn C F X Y S n cs pf px pa ps Af v A14 As o10 (some g) o15 o17 W := h.imp fun _ t => { t with o12 := fun g' e => by cases e; exact hg }
theorem TeS.p15 (h : TeS W0 bn C F X Y S n cs pf px pa ps Af v A14 As o10 o12 o15 o17 W) {g : Nat} (hg : Blk W g 3 [.int .i64 0, .int .i64 1]) : TeS W0 bn C F X Y S n cs pf px pa ps Af v A14 As o10 o12 (some g) o17 W := h.imp fun _ t => { t with o15 := fun g' e => by cases e; exact hg }
theorem TeS.p17 (h : TeS W0 bn C F X Y S n cs pf px pa ps Af v A14 As o10 o12 o15 o17 W) {g : Nat} (hg : Blk W g 9 [.string ⟨#[97]⟩]) : TeS W0 bn C F X Y S n cs pf px pa ps Af v A14 As o10 o12 o15 (some g) W := h.imp fun _ t => { t with o17 := fun g' e => by cases e; exact hg }
theorem TeS.d10 (h : TeS W0 bn C F X Y S n cs pf px pa ps Af v A14 As o10 o12 o15 o17 W) : TeS W0 bn C F X Y S n cs pf px pa ps Af v A14 As none o12 o15 o17 W := h.imp fun _ t => { t with o10 := fun _ e => by cases e }
theorem TeS.d12 (h : TeS W0 bn C F X Y S n cs pf px pa ps Af v A14 As o10 o12 o15 o17 W) : TeS W0 bn C F X Y S n cs pf px pa ps Af v A14 As o10 none o15 o17 W := h.imp fun _ t => { t with o12 := fun _ e => by cases e }
theorem TeS.d15 (h : TeS W0 bn C F X Y S n cs pf px pa ps Af v A14 As o10 o12 o15 o17 W) : TeS W0 bn C F X Y S n cs pf px pa ps Af v A14 As o10 o12 none o17 W := h.imp fun _ t => { t with o15 := fun _ e => by cases e }
theorem TeS.d17 (h : TeS W0 bn C F X Y S n cs pf px pa ps Af v A14 As o10 o12 o15 o17 W) : TeS W0 bn C F X Y S n cs pf px pa ps Af v A14 As o10 o12 o15 none W := h.imp fun _ t => { t with o17 := fun _ e => by cases e }
theorem TeS.few (h : TeS W0 bn True F X Y S n cs false false false false Af v A14 As o10 o12 o15 o17 W) (hr : Rd W W.heap.size A' (B8 X')) (hc : C') : TeS W0 bn C' X' X Y S n cs true false false false A' v A14 As o10 o12 o15 o17 W := by
 obtain ⟨bb, t⟩ := h
 exact ⟨W.heap.size, t.b, hc, ⟨Nat.le_trans t.h.1 t.h.2, Nat.le_refl _⟩, fun _ => hr, fun e => (by cases e), fun e => (by cases e), fun e => (by cases e), t.o10, t.o12, t.o15, t.o17⟩
theorem TeS.ints (h : TeS W0 bn C F X Y S n cs true false pa false Af v A14 As o10 o12 o15 o17 W) (hb : Below W.heap.size W W') (ho : W'.ownsRow W.heap.size 5 1 v' n' (B8 X')) : TeS W0 bn C F X' Y S n' cs true true pa false Af v' A14 As o10 o12 o15 o17 W' := by
 obtain ⟨bb, t⟩ := h
 have t2 := t.below hb
 exact ⟨W.heap.size, t2.b, t2.c, ⟨Nat.le_trans t.h.1 t.h.2, hb.size⟩, fun e => (((t.f e).more t.h.2).below hb), fun _ => ho, fun e => (((t.a e).more t.h.2).below hb), fun e => (by cases e), t2.o10, t2.o12, t2.o15, t2.o17⟩
theorem TeS.strs (h : TeS W0 bn C F X Y S n cs pf px pa false Af v A14 As o10 o12 o15 o17 W) (hr : Rd W W.heap.size A' (B8 S')) (hn : A' = none → cs' = 0) : TeS W0 bn C F X Y S' n cs' pf px pa true Af v A14 A' o10 o12 o15 o17 W := by
 obtain ⟨bb, t⟩ := h
 exact ⟨bb, t.b, t.c, t.h, t.f, t.x, t.a, fun _ => ⟨hr, hn⟩, t.o10, t.o12, t.o15, t.o17⟩
theorem TqS.join (h : TqS W0 bn C F X Y S n cs true true pa true Af v A14 As o10 o12 o15 o17 W bb) (ho : W'.ownsRow bb 5 1 v' n' (B8 X')) (hg : W.grownBy W' v.ownBlock) : TeS W0 bn C F X' Y [] n' 0 true true pa false Af v' A14 none o10 o12 o15 o17 W' := by
 have hx := h.x rfl
 have hb : Below bb W W' := ⟨hg.os, hg.tape, hg.output, hg.size, fun q hq => hg.block q (Nat.lt_of_lt_of_le hq h.h.2) (fun e => absurd (hx.lt q e.symm).1 (by omega))⟩
 exact ⟨bb, h.b.trans (hb.mono h.h.1), h.c, ⟨h.h.1, Nat.le_trans h.h.2 hg.size⟩, fun e => (h.f e).below hb, fun _ => ho, fun e => (h.a e).below hb, fun e => (by cases e),
  fun g e => blk_other (h.o10 g e) hx hg (by decide), fun g e => blk_other (h.o12 g e) hx hg (by decide), fun g e => blk_other (h.o15 g e) hx hg (by decide), fun g e => blk_other (h.o17 g e) hx hg (by decide)⟩
theorem TeS.done1 {n c : Nat} (h : TeS W0 bn C F X Y S n cs true true false false Af (.slice A' n c) A14 As o10 o12 o15 o17 W) (hc : C') : TeS W0 bn (C ∧ C') F [] X [] 0 0 true false true false Af (.int .i64 0) A' none o10 o12 o15 o17 W := by
 obtain ⟨bb, t⟩ := h
 exact ⟨W.heap.size, t.b, ⟨t.c, hc⟩, ⟨Nat.le_trans t.h.1 t.h.2, Nat.le_refl _⟩, fun e => (t.f e).more t.h.2, fun e => (by cases e), fun _ => Rd.of_own (t.x rfl), fun e => (by cases e), t.o10, t.o12, t.o15, t.o17⟩
end
theorem rd_blk {W : World} {g : Nat} {t : TypeId} {cs : List Value} (h : Blk W g t cs) : Rd W W.heap.size (some ⟨g, 0, none⟩) cs := fun _ => ⟨g, 0, rfl, h.lt, fun j u hu => by rw [Nat.zero_add, h.cell]; exact hu⟩
def TxAt (W : World) (gt j : Nat) (A : Option Addr) (n c : Nat) (b : List UInt8) : Prop :=
 W.cell? ⟨gt, j, none⟩ = some (.slice A n c) ∧ Rd W W.heap.size A (B8 b) ∧ n = b.length ∧ n ≤ c ∧ n ≤ 1048576 ∧ (j = 1 → (decP b).2.2 ≠ 0)
theorem TxAt.below {W W' : World} {gt j : Nat} {A : Option Addr} {n c : Nat} {b : List UInt8} (h : TxAt W gt j A n c b) (hb : Below W.heap.size W W') : TxAt W' gt j A n c b :=
 ⟨(hb.cell (World.block_lt_of_cell? _ _ h.1)).trans h.1, (h.2.1.below hb).more hb.size, h.2.2⟩
def Txs (W : World) (gt : Nat) : Prop := ∀ j, j < 5 → ∃ (A : Option Addr) (n c : Nat) (b : List UInt8), TxAt W gt j A n c b
theorem txs5 {W : World} {gt : Nat} {A0 A1 A2 A3 A4 : Option Addr} {n0 n1 n2 n3 n4 c0 c1 c2 c3 c4 : Nat} {b0 b1 b2 b3 b4 : List UInt8} (hb : Blk W gt 39 [.slice A0 n0 c0, .slice A1 n1 c1, .slice A2 n2 c2, .slice A3 n3 c3, .slice A4 n4 c4])
  (h0 : Rd W W.heap.size A0 (B8 b0) ∧ n0 = b0.length ∧ n0 ≤ c0 ∧ n0 ≤ 1048576) (h1 : Rd W W.heap.size A1 (B8 b1) ∧ n1 = b1.length ∧ n1 ≤ c1 ∧ n1 ≤ 1048576) (hd : (decP b1).2.2 ≠ 0)
  (h2 : Rd W W.heap.size A2 (B8 b2) ∧ n2 = b2.length ∧ n2 ≤ c2 ∧ n2 ≤ 1048576) (h3 : Rd W W.heap.size A3 (B8 b3) ∧ n3 = b3.length ∧ n3 ≤ c3 ∧ n3 ≤ 1048576) (h4 : Rd W W.heap.size A4 (B8 b4) ∧ n4 = b4.length ∧ n4 ≤ c4 ∧ n4 ≤ 1048576) : Txs W gt := by
 intro j hj
 have hc : j = 0 ∨ j = 1 ∨ j = 2 ∨ j = 3 ∨ j = 4 := by omega
 rcases hc with rfl | rfl | rfl | rfl | rfl
 ·
  exact ⟨A0, n0, c0, b0, (hb.cell 0).trans rfl, h0.1, h0.2.1, h0.2.2.1, h0.2.2.2, fun e => by cases e⟩
 ·
  exact ⟨A1, n1, c1, b1, (hb.cell 1).trans rfl, h1.1, h1.2.1, h1.2.2.1, h1.2.2.2, fun _ => hd⟩
 ·
  exact ⟨A2, n2, c2, b2, (hb.cell 2).trans rfl, h2.1, h2.2.1, h2.2.2.1, h2.2.2.2, fun e => by cases e⟩
 ·
  exact ⟨A3, n3, c3, b3, (hb.cell 3).trans rfl, h3.1, h3.2.1, h3.2.2.1, h3.2.2.2, fun e => by cases e⟩
 ·
  exact ⟨A4, n4, c4, b4, (hb.cell 4).trans rfl, h4.1, h4.2.1, h4.2.2.1, h4.2.2.2, fun e => by cases e⟩
theorem build82 : ∀ (W : World) (A0 A1 A2 A3 A4 : Option Addr) (n0 n1 n2 n3 n4 c0 c1 c2 c3 c4 : Nat), (Instr.buildSlice 82 5 #[(0, .slice A0 n0 c0), (1, .slice A1 n1 c1), (2, .slice A2 n2 c2), (3, .slice A3 n3 c3), (4, .slice A4 n4 c4)]).run Tryd.prog W = .ok (.slice (some ⟨W.heap.size, 0, none⟩) 5 5) (W.alloc (.cells [.slice A0 n0 c0, .slice A1 n1 c1, .slice A2 n2 c2, .slice A3 n3 c3, .slice A4 n4 c4].toArray 39)) := by
 intros; kernel_rfl
theorem build63c : ∀ (W : World) (a1 b1 a2 b2 a3 b3 : Int) (x1 y1 x2 y2 : Value), (Instr.buildSlice 63 4 #[(0, .agg (PR a1 b1 x1 y1).toArray), (1, .agg (PR a2 b2 x2 y2).toArray), (2, .agg ZP.toArray), (3, .agg (PR a3 b3 (.slice none 0 0) (.slice none 0 0)).toArray)]).run Tryd.prog W = .ok (.slice (some ⟨W.heap.size, 0, none⟩) 4 4) (W.alloc (.cells ([PR a1 b1 x1 y1, PR a2 b2 x2 y2, ZP, PR a3 b3 (.slice none 0 0) (.slice none 0 0)].flatten).toArray 54)) := by
 intros; kernel_rfl
def ListC (W : World) (gl cnt N M : Nat) : Prop := ∀ i, i < cnt → ∃ (p : Pf) (A1 A2 : Option Addr) (n m c1 c2 : Nat), (∀ q u, (PR p.first p.size (.slice A1 n c1) (.slice A2 m c2))[q]? = some u → W.cell? ((⟨gl, i * 4, none⟩ : Addr).add q) = some u) ∧ PV W W.heap.size N M p A1 A2 n m c1 c2
theorem pv_plain (W : World) (N M : Nat) (a b : Int) (ha : okInt a) (hb : okInt b) : PV W W.heap.size N M ⟨a, b, [], []⟩ none none 0 0 0 0 := ⟨⟨Rd.nil, Rd.nil, ⟨Nat.le_refl _, fun _ => rfl⟩, ⟨Nat.le_refl _, fun _ => rfl⟩, ⟨(by decide : (0 : Nat) ≤ 1073741824), (fun x h => by cases h)⟩, ⟨(by decide : (0 : Nat) ≤ 1073741824), (fun x h => by cases h)⟩, ⟨ha, hb⟩⟩, rfl, rfl, Nat.zero_le _, Nat.zero_le _, fun x h => by cases h⟩
theorem listC4 {W : World} {gl N M : Nat} {p1 p2 : Pf} {a b : Int} {A1 B1 A2 B2 : Option Addr} {n1 m1 c1 d1 n2 m2 c2 d2 : Nat}
  (h : Blk W gl 54 [PR p1.first p1.size (.slice A1 n1 c1) (.slice B1 m1 d1), PR p2.first p2.size (.slice A2 n2 c2) (.slice B2 m2 d2), ZP, PR a b (.slice none 0 0) (.slice none 0 0)].flatten)
  (h1 : PV W W.heap.size N M p1 A1 B1 n1 m1 c1 d1) (h2 : PV W W.heap.size N M p2 A2 B2 n2 m2 c2 d2) (ha : okInt a) (hb : okInt b) : ListC W gl 4 N M := by
 intro i hi
 have hc : i = 0 ∨ i = 1 ∨ i = 2 ∨ i = 3 := by omega
 rcases hc with rfl | rfl | rfl | rfl
 ·
  exact ⟨p1, A1, B1, n1, m1, c1, d1, row4 (X := []) h 0 rfl, h1⟩
 ·
  exact ⟨p2, A2, B2, n2, m2, c2, d2, row4 (X := PR p1.first p1.size (.slice A1 n1 c1) (.slice B1 m1 d1)) h 1 rfl, h2⟩
 ·
  exact ⟨⟨0, 0, [], []⟩, none, none, 0, 0, 0, 0, row4 (X := PR p1.first p1.size (.slice A1 n1 c1) (.slice B1 m1 d1) ++ PR p2.first p2.size (.slice A2 n2 c2) (.slice B2 m2 d2)) (Y := ZP) h 2 rfl, pv_plain W N M 0 0 ⟨by decide, by decide⟩ ⟨by decide, by decide⟩⟩
 ·
  exact ⟨⟨a, b, [], []⟩, none, none, 0, 0, 0, 0, row4 (X := PR p1.first p1.size (.slice A1 n1 c1) (.slice B1 m1 d1) ++ PR p2.first p2.size (.slice A2 n2 c2) (.slice B2 m2 d2) ++ ZP) (Y := PR a b (.slice none 0 0) (.slice none 0 0)) (Z := []) h 3 rfl, pv_plain W N M a b ha hb⟩
theorem encP_pos (p : Pf) : 0 < (encP p).length := by
 unfold encP
 rw [List.length_append]
 have : 0 < (encInts [p.first, p.size]).length := by
  unfold encInts encList
  rw [List.length_append]
  have := (codecInt.long (2 : Int) ⟨by decide, by decide⟩)
  have h := codecInt.least1
  show 0 < (enc ((2 : Nat) : Int)).length + _
  have e : (enc ((2 : Nat) : Int)).length = (enc (2 : Int)).length := rfl
  omega
 omega
end Go.Proofs.YtofccgkgjcnfbaaDoor
