/-
  Plain mathematics: SHA-256 computed over natural numbers, as the kernel computes fast.
  No condition.
-/
import Derived.Test.YtgonidjajmjniaaDoorSha
namespace Go.Proofs.YtgonidjajmjniaaDoor
set_option linter.unusedVariables false
namespace Sh
def rr (x n : Nat) : Nat := Nat.lor (Nat.shiftRight x n) (Nat.mod (Nat.shiftLeft x (Nat.sub (nat_lit 32) n)) (nat_lit 4294967296))
def s0N (x : Nat) : Nat := Nat.xor (Nat.xor (rr x (nat_lit 7)) (rr x (nat_lit 18))) (Nat.shiftRight x (nat_lit 3))
def s1N (x : Nat) : Nat := Nat.xor (Nat.xor (rr x (nat_lit 17)) (rr x (nat_lit 19))) (Nat.shiftRight x (nat_lit 10))
def eN (x : Nat) : Nat := Nat.xor (Nat.xor (rr x (nat_lit 6)) (rr x (nat_lit 11))) (rr x (nat_lit 25))
def aN (x : Nat) : Nat := Nat.xor (Nat.xor (rr x (nat_lit 2)) (rr x (nat_lit 13))) (rr x (nat_lit 22))
def chN (e f g : Nat) : Nat := Nat.xor (Nat.land e f) (Nat.land (Nat.sub (nat_lit 4294967295) e) g)
def mjN (a b c : Nat) : Nat := Nat.xor (Nat.xor (Nat.land a b) (Nat.land a c)) (Nat.land b c)
def xN (e f g h k w : Nat) : Nat := Nat.add (Nat.add (Nat.add (Nat.add h (eN e)) (chN e f g)) k) w
def yN (a b c : Nat) : Nat := Nat.add (aN a) (mjN a b c)
def nxtN (w0 w1 w9 w14 : Nat) : Nat := Nat.mod (Nat.add (Nat.add (Nat.add w0 (s0N w1)) w9) (s1N w14)) (nat_lit 4294967296)
/-- The rounds that are left, from their constants; the state, and the sixteen next words. -/
noncomputable def goN (ks : List Nat) : Nat → Nat → Nat → Nat → Nat → Nat → Nat → Nat → Nat → Nat → Nat → Nat → Nat → Nat → Nat → Nat → Nat → Nat → Nat → Nat → Nat → Nat → Nat → Nat → List Nat :=
  List.rec (motive := fun _ => Nat → Nat → Nat → Nat → Nat → Nat → Nat → Nat → Nat → Nat → Nat → Nat → Nat → Nat → Nat → Nat → Nat → Nat → Nat → Nat → Nat → Nat → Nat → Nat → List Nat)
    (fun a b c d e f g h _ _ _ _ _ _ _ _ _ _ _ _ _ _ _ _ => [a, b, c, d, e, f, g, h])
    (fun k _ ih a b c d e f g h w0 w1 w2 w3 w4 w5 w6 w7 w8 w9 w10 w11 w12 w13 w14 w15 =>
      (fun x => ih (Nat.mod (Nat.add x (yN a b c)) (nat_lit 4294967296)) a b c (Nat.mod (Nat.add d x) (nat_lit 4294967296)) e f g w1 w2 w3 w4 w5 w6 w7 w8 w9 w10 w11 w12 w13 w14 w15 (nxtN w0 w1 w9 w14)) (xN e f g h k w0))
    ks
theorem goN_nil (a b c d e f g h w0 w1 w2 w3 w4 w5 w6 w7 w8 w9 w10 w11 w12 w13 w14 w15 : Nat) : goN [] a b c d e f g h w0 w1 w2 w3 w4 w5 w6 w7 w8 w9 w10 w11 w12 w13 w14 w15 = [a, b, c, d, e, f, g, h] := rfl
theorem goN_cons (k : Nat) (ks : List Nat) (a b c d e f g h w0 w1 w2 w3 w4 w5 w6 w7 w8 w9 w10 w11 w12 w13 w14 w15 : Nat) : goN (k :: ks) a b c d e f g h w0 w1 w2 w3 w4 w5 w6 w7 w8 w9 w10 w11 w12 w13 w14 w15 =
    goN ks (Nat.mod (Nat.add (xN e f g h k w0) (yN a b c)) (nat_lit 4294967296)) a b c (Nat.mod (Nat.add d (xN e f g h k w0)) (nat_lit 4294967296)) e f g w1 w2 w3 w4 w5 w6 w7 w8 w9 w10 w11 w12 w13 w14 w15 (nxtN w0 w1 w9 w14) := rfl

theorem rr_nat (x : W) (n : Nat) (h : n < 32) : rr x.toNat n = (x.rotateRight n).toNat := by
  rw [BitVec.rotateRight_def, Nat.mod_eq_of_lt h, BitVec.toNat_or, BitVec.toNat_ushiftRight, BitVec.toNat_shiftLeft]; rfl
theorem s0_nat (x : W) : s0N x.toNat = (s0 x).toNat := by
  unfold s0N s0; rw [rr_nat _ _ (by decide), rr_nat _ _ (by decide), BitVec.toNat_xor, BitVec.toNat_xor, BitVec.toNat_ushiftRight]; rfl
theorem s1_nat (x : W) : s1N x.toNat = (s1 x).toNat := by
  unfold s1N s1; rw [rr_nat _ _ (by decide), rr_nat _ _ (by decide), BitVec.toNat_xor, BitVec.toNat_xor, BitVec.toNat_ushiftRight]; rfl
theorem e_nat (x : W) : eN x.toNat = (x.rotateRight 6 ^^^ x.rotateRight 11 ^^^ x.rotateRight 25).toNat := by
  unfold eN; rw [rr_nat _ _ (by decide), rr_nat _ _ (by decide), rr_nat _ _ (by decide), BitVec.toNat_xor, BitVec.toNat_xor]; rfl
theorem a_nat (x : W) : aN x.toNat = (x.rotateRight 2 ^^^ x.rotateRight 13 ^^^ x.rotateRight 22).toNat := by
  unfold aN; rw [rr_nat _ _ (by decide), rr_nat _ _ (by decide), rr_nat _ _ (by decide), BitVec.toNat_xor, BitVec.toNat_xor]; rfl
theorem ch_nat (e f g : W) : chN e.toNat f.toNat g.toNat = ((e &&& f) ^^^ (~~~e &&& g)).toNat := by
  unfold chN; rw [BitVec.toNat_xor, BitVec.toNat_and, BitVec.toNat_and, BitVec.toNat_not]; rfl
theorem mj_nat (a b c : W) : mjN a.toNat b.toNat c.toNat = ((a &&& b) ^^^ (a &&& c) ^^^ (b &&& c)).toNat := by
  unfold mjN; rw [BitVec.toNat_xor, BitVec.toNat_xor, BitVec.toNat_and, BitVec.toNat_and, BitVec.toNat_and]; rfl
theorem nxt_nat (w0 w1 w9 w14 : W) : nxtN w0.toNat w1.toNat w9.toNat w14.toNat = (w0 + s0 w1 + w9 + s1 w14).toNat := by
  unfold nxtN
  rw [s0_nat, s1_nat, BitVec.toNat_add, BitVec.toNat_add, BitVec.toNat_add]
  show (_ + _ + _ + _) % 4294967296 = _
  omega
theorem new_a (s : S8) (k w : W) : Nat.mod (Nat.add (xN s.e.toNat s.f.toNat s.g.toNat s.h.toNat k.toNat w.toNat) (yN s.a.toNat s.b.toNat s.c.toNat)) (nat_lit 4294967296) = (round s k w).a.toNat := by
  unfold xN yN
  rw [e_nat, a_nat, ch_nat, mj_nat]
  show (_ + _ + _ + _ + _ + (_ + _)) % 4294967296 = (xOf s k w + yOf s).toNat
  unfold xOf yOf
  rw [BitVec.toNat_add, BitVec.toNat_add, BitVec.toNat_add, BitVec.toNat_add, BitVec.toNat_add, BitVec.toNat_add]
  omega
theorem new_e (s : S8) (k w : W) : Nat.mod (Nat.add s.d.toNat (xN s.e.toNat s.f.toNat s.g.toNat s.h.toNat k.toNat w.toNat)) (nat_lit 4294967296) = (round s k w).e.toNat := by
  unfold xN
  rw [e_nat, ch_nat]
  show (_ + (_ + _ + _ + _ + _)) % 4294967296 = (s.d + xOf s k w).toNat
  unfold xOf
  rw [BitVec.toNat_add, BitVec.toNat_add, BitVec.toNat_add, BitVec.toNat_add, BitVec.toNat_add]
  omega

theorem wl_length (b : List UInt8) (n : Nat) : (wl b n).length = 16 + n := by
  induction n with
  | zero => simp [wl]
  | succ n ih => simp [wl, ih]; omega
theorem wl_more (b : List UInt8) (n t : Nat) (h : t < 16 + n) (m : Nat) : (wl b (n + m)).getD t 0 = (wl b n).getD t 0 := by
  induction m with
  | zero => rfl
  | succ m ih =>
    rw [← ih, ← Nat.add_assoc, wl, List.getD_eq_getElem?_getD, List.getD_eq_getElem?_getD, List.getElem?_append_left (by rw [wl_length]; omega)]
/-- The word number t. -/
def wAt (b : List UInt8) (t : Nat) : W := (wl b t).getD t 0
theorem wl_at (b : List UInt8) (n t : Nat) (h : t < 16 + n) : (wl b n).getD t 0 = wAt b t := by
  unfold wAt
  rw [← wl_more b n t h t, ← wl_more b t t (by omega) n, Nat.add_comm]
theorem wAt_next (b : List UInt8) (t : Nat) : wAt b (t + 16) = wAt b t + s0 (wAt b (t + 1)) + wAt b (t + 9) + s1 (wAt b (t + 14)) := by
  rw [← wl_at b (t + 1) (t + 16) (by omega), wl, List.getD_eq_getElem?_getD, List.getElem?_append_right (by rw [wl_length]; omega), wl_length]
  have e : t + 16 - (16 + t) = 0 := by omega
  rw [e, List.getElem?_cons_zero, Option.getD_some, ext]
  have e1 : 16 + t - 16 = t := by omega
  have e2 : 16 + t - 15 = t + 1 := by omega
  have e3 : 16 + t - 7 = t + 9 := by omega
  have e4 : 16 + t - 2 = t + 14 := by omega
  rw [e1, e2, e3, e4, wl_at b t t (by omega), wl_at b t (t + 1) (by omega), wl_at b t (t + 9) (by omega), wl_at b t (t + 14) (by omega)]
def natL (s : S8) : List Nat := [s.a.toNat, s.b.toNat, s.c.toNat, s.d.toNat, s.e.toNat, s.f.toNat, s.g.toNat, s.h.toNat]

theorem go_nat (b : List UInt8) (s : S8) : ∀ (ks : List W) (t : Nat), KL.drop t = ks → t ≤ 64 → ∀ r : S8, r = rnds s (sched b) t →
    goN (ks.map BitVec.toNat) r.a.toNat r.b.toNat r.c.toNat r.d.toNat r.e.toNat r.f.toNat r.g.toNat r.h.toNat (wAt b t).toNat (wAt b (t + 1)).toNat (wAt b (t + 2)).toNat (wAt b (t + 3)).toNat (wAt b (t + 4)).toNat (wAt b (t + 5)).toNat (wAt b (t + 6)).toNat (wAt b (t + 7)).toNat (wAt b (t + 8)).toNat (wAt b (t + 9)).toNat (wAt b (t + 10)).toNat (wAt b (t + 11)).toNat (wAt b (t + 12)).toNat (wAt b (t + 13)).toNat (wAt b (t + 14)).toNat (wAt b (t + 15)).toNat = natL (rnds s (sched b) 64) := by
  intro ks
  induction ks with
  | nil =>
    intro t hk ht r hr
    have h := congrArg List.length hk
    rw [List.length_drop, show KL.length = 64 from rfl, List.length_nil] at h
    obtain rfl : t = 64 := by omega
    subst hr
    rw [List.map_nil, goN_nil]; rfl
  | cons k ks ih =>
    intro t hk ht r hr
    have h := congrArg List.length hk
    rw [List.length_drop, show KL.length = 64 from rfl, List.length_cons] at h
    have ht' : t < 64 := by omega
    have hkt : K t = k := by
      have h2 := congrArg (fun l : List W => l[0]?) hk
      simp only [List.getElem?_drop, Nat.add_zero, List.getElem?_cons_zero] at h2
      unfold K; rw [List.getD_eq_getElem?_getD, h2]; rfl
    have hks : KL.drop (t + 1) = ks := by
      have h2 := congrArg List.tail hk
      rw [List.tail_drop] at h2
      exact h2
    have hr1 : round r k (wAt b t) = rnds s (sched b) (t + 1) := by
      have hw : (sched b).getD t 0 = wAt b t := by unfold sched; exact wl_at b 48 t (by omega)
      rw [rnds, ← hr, hkt, hw]
    have h3 := ih (t + 1) hks (by omega) (round r k (wAt b t)) hr1
    rw [← h3]
    rw [List.map_cons, goN_cons, new_a, new_e, nxt_nat, ← wAt_next b t]
    have e : ∀ i, t + 1 + i = t + (i + 1) := by intro i; omega
    rw [e 1, e 2, e 3, e 4, e 5, e 6, e 7, e 8, e 9, e 10, e 11, e 12, e 13, e 14, e 15]
    rfl
def KN : List Nat := [nat_lit 1116352408, nat_lit 1899447441, nat_lit 3049323471, nat_lit 3921009573, nat_lit 961987163, nat_lit 1508970993, nat_lit 2453635748, nat_lit 2870763221, nat_lit 3624381080, nat_lit 310598401, nat_lit 607225278, nat_lit 1426881987, nat_lit 1925078388, nat_lit 2162078206, nat_lit 2614888103, nat_lit 3248222580, nat_lit 3835390401, nat_lit 4022224774, nat_lit 264347078, nat_lit 604807628, nat_lit 770255983, nat_lit 1249150122, nat_lit 1555081692, nat_lit 1996064986, nat_lit 2554220882, nat_lit 2821834349, nat_lit 2952996808, nat_lit 3210313671, nat_lit 3336571891, nat_lit 3584528711, nat_lit 113926993, nat_lit 338241895, nat_lit 666307205, nat_lit 773529912, nat_lit 1294757372, nat_lit 1396182291, nat_lit 1695183700, nat_lit 1986661051, nat_lit 2177026350, nat_lit 2456956037, nat_lit 2730485921, nat_lit 2820302411, nat_lit 3259730800, nat_lit 3345764771, nat_lit 3516065817, nat_lit 3600352804, nat_lit 4094571909, nat_lit 275423344, nat_lit 430227734, nat_lit 506948616, nat_lit 659060556, nat_lit 883997877, nat_lit 958139571, nat_lit 1322822218, nat_lit 1537002063, nat_lit 1747873779, nat_lit 1955562222, nat_lit 2024104815, nat_lit 2227730452, nat_lit 2361852424, nat_lit 2428436474, nat_lit 2756734187, nat_lit 3204031479, nat_lit 3329325298]
theorem KN_eq : KL.map BitVec.toNat = KN := by decide +kernel
/-- One block: the state, the sixteen words. -/
noncomputable def cmpN (a b c d e f g h w0 w1 w2 w3 w4 w5 w6 w7 w8 w9 w10 w11 w12 w13 w14 w15 : Nat) : List Nat :=
  match goN KN a b c d e f g h w0 w1 w2 w3 w4 w5 w6 w7 w8 w9 w10 w11 w12 w13 w14 w15 with
  | [a', b', c', d', e', f', g', h'] => [Nat.mod (Nat.add a a') (nat_lit 4294967296), Nat.mod (Nat.add b b') (nat_lit 4294967296), Nat.mod (Nat.add c c') (nat_lit 4294967296), Nat.mod (Nat.add d d') (nat_lit 4294967296),
      Nat.mod (Nat.add e e') (nat_lit 4294967296), Nat.mod (Nat.add f f') (nat_lit 4294967296), Nat.mod (Nat.add g g') (nat_lit 4294967296), Nat.mod (Nat.add h h') (nat_lit 4294967296)]
  | _ => []
theorem add_nat (x y : W) : Nat.mod (Nat.add x.toNat y.toNat) (nat_lit 4294967296) = (x + y).toNat := by rw [BitVec.toNat_add]; rfl

theorem cmp_nat (s : S8) (b : List UInt8) : cmpN s.a.toNat s.b.toNat s.c.toNat s.d.toNat s.e.toNat s.f.toNat s.g.toNat s.h.toNat (be b 0).toNat (be b 1).toNat (be b 2).toNat (be b 3).toNat (be b 4).toNat (be b 5).toNat (be b 6).toNat (be b 7).toNat (be b 8).toNat (be b 9).toNat (be b 10).toNat (be b 11).toNat (be b 12).toNat (be b 13).toNat (be b 14).toNat (be b 15).toNat = natL (compress s b) := by
  have h := go_nat b s KL 0 rfl (by omega) s rfl
  have hw : ∀ i, i < 16 → wAt b i = be b i := by
    intro i hi
    rw [← wl_at b 0 i (by omega), wl, List.getD_eq_getElem?_getD, List.getElem?_map, List.getElem?_range hi]; rfl
  rw [Nat.zero_add, Nat.zero_add, Nat.zero_add, Nat.zero_add, Nat.zero_add, Nat.zero_add, Nat.zero_add, Nat.zero_add, Nat.zero_add, Nat.zero_add, Nat.zero_add, Nat.zero_add, Nat.zero_add, Nat.zero_add, Nat.zero_add, KN_eq, hw 0 (by omega), hw 1 (by omega), hw 2 (by omega), hw 3 (by omega), hw 4 (by omega), hw 5 (by omega), hw 6 (by omega), hw 7 (by omega), hw 8 (by omega), hw 9 (by omega), hw 10 (by omega), hw 11 (by omega), hw 12 (by omega), hw 13 (by omega), hw 14 (by omega), hw 15 (by omega)] at h
  unfold cmpN
  rw [h]
  unfold natL
  simp only []
  rw [add_nat, add_nat, add_nat, add_nat, add_nat, add_nat, add_nat, add_nat]
  rfl

/-- The words of bytes. -/
def wordsN : List Nat → List Nat
  | a :: b :: c :: d :: r => Nat.add (Nat.add (Nat.add (Nat.mul a (nat_lit 16777216)) (Nat.mul b (nat_lit 65536))) (Nat.mul c (nat_lit 256))) d :: wordsN r
  | _ => []
theorem or_add (a b c d : Nat) (ha : a < 256) (hb : b < 256) (hc : c < 256) (hd : d < 256) :
    ((BitVec.ofNat 32 a <<< 24 ||| BitVec.ofNat 32 b <<< 16 ||| BitVec.ofNat 32 c <<< 8 ||| BitVec.ofNat 32 d) : W).toNat = a * 16777216 + b * 65536 + c * 256 + d := by
  rw [BitVec.toNat_or, BitVec.toNat_or, BitVec.toNat_or, BitVec.toNat_shiftLeft, BitVec.toNat_shiftLeft, BitVec.toNat_shiftLeft, BitVec.toNat_ofNat, BitVec.toNat_ofNat, BitVec.toNat_ofNat, BitVec.toNat_ofNat,
    Nat.mod_eq_of_lt (a := a) (by omega), Nat.mod_eq_of_lt (a := b) (by omega), Nat.mod_eq_of_lt (a := c) (by omega), Nat.mod_eq_of_lt (a := d) (by omega)]
  have e1 : a <<< 24 % 2 ^ 32 = a <<< 24 := Nat.mod_eq_of_lt (by rw [Nat.shiftLeft_eq]; omega)
  have e2 : b <<< 16 % 2 ^ 32 = b <<< 16 := Nat.mod_eq_of_lt (by rw [Nat.shiftLeft_eq]; omega)
  have e3 : c <<< 8 % 2 ^ 32 = c <<< 8 := Nat.mod_eq_of_lt (by rw [Nat.shiftLeft_eq]; omega)
  rw [e1, e2, e3, ← Nat.shiftLeft_add_eq_or_of_lt (show b <<< 16 < 2 ^ 24 by rw [Nat.shiftLeft_eq]; omega) a]
  have e4 : a <<< 24 + b <<< 16 = (a * 256 + b) <<< 16 := by rw [Nat.shiftLeft_eq, Nat.shiftLeft_eq, Nat.shiftLeft_eq]; omega
  rw [e4, ← Nat.shiftLeft_add_eq_or_of_lt (show c <<< 8 < 2 ^ 16 by rw [Nat.shiftLeft_eq]; omega)]
  have e5 : (a * 256 + b) <<< 16 + c <<< 8 = ((a * 256 + b) * 256 + c) <<< 8 := by rw [Nat.shiftLeft_eq, Nat.shiftLeft_eq, Nat.shiftLeft_eq]; omega
  rw [e5, ← Nat.shiftLeft_add_eq_or_of_lt (show d < 2 ^ 8 by omega), Nat.shiftLeft_eq]
  omega
def toN (l : List UInt8) : List Nat := l.map UInt8.toNat
theorem wordsN_eq : ∀ m : List UInt8, wordsN (toN m) = (List.range (m.length / 4)).map fun t => (be m t).toNat
  | a :: b :: c :: d :: r => by
    have h1 : (a :: b :: c :: d :: r).length / 4 = r.length / 4 + 1 := by simp only [List.length_cons]; omega
    have ih := wordsN_eq r
    rw [h1, List.range_succ_eq_map, List.map_cons, List.map_map]
    show (a.toNat * 16777216 + b.toNat * 65536 + c.toNat * 256 + d.toNat) :: wordsN (toN r) = _
    rw [ih]
    have h2 : (be (a :: b :: c :: d :: r) 0).toNat = a.toNat * 16777216 + b.toNat * 65536 + c.toNat * 256 + d.toNat := or_add _ _ _ _ a.toNat_lt b.toNat_lt c.toNat_lt d.toNat_lt
    rw [h2]
    refine congrArg _ (List.map_congr_left fun t _ => ?_)
    show _ = (be (a :: b :: c :: d :: r) (t + 1)).toNat
    have h3 : ∀ i, byteAt (a :: b :: c :: d :: r) (4 * (t + 1) + i) = byteAt r (4 * t + i) := by
      intro i
      unfold byteAt
      rw [show 4 * (t + 1) + i = (4 * t + i) + 4 by omega]
      simp only [List.getD_cons_succ]
    unfold be
    rw [← h3, ← h3, ← h3, ← Nat.add_zero (4 * t), ← h3]; rfl
  | [] => by simp [wordsN, toN]
  | [_] => by simp [wordsN, toN]
  | [_, _] => by simp [wordsN, toN]
  | [_, _, _] => by simp [wordsN, toN]
theorem byte_drop (m : List UInt8) (k i : Nat) : byteAt (m.drop k) i = byteAt m (k + i) := by
  unfold byteAt
  rw [List.getD_eq_getElem?_getD, List.getElem?_drop, List.getD_eq_getElem?_getD]
theorem byte_take (m : List UInt8) (k i : Nat) (h : i < k) : byteAt (m.take k) i = byteAt m i := by
  unfold byteAt
  rw [List.getD_eq_getElem?_getD, List.getElem?_take_of_lt h, List.getD_eq_getElem?_getD]
theorem be_block (m : List UInt8) (t : Nat) (h : t < 16) : be (m.take 64) t = be m t := by
  unfold be
  rw [byte_take _ _ _ (by omega), byte_take _ _ _ (by omega), byte_take _ _ _ (by omega), byte_take _ _ _ (by omega)]
theorem be_drop (m : List UInt8) (t : Nat) : be (m.drop 64) t = be m (16 + t) := by
  unfold be
  rw [byte_drop, byte_drop, byte_drop, byte_drop]
  have e : 64 + 4 * t = 4 * (16 + t) := by omega
  rw [← Nat.add_assoc, ← Nat.add_assoc, ← Nat.add_assoc, e]
theorem words_block (m : List UInt8) (h : 64 ≤ m.length) : wordsN (toN m) = ((List.range 16).map fun t => (be (m.take 64) t).toNat) ++ wordsN (toN (m.drop 64)) := by
  have e : m.length / 4 = 16 + (m.drop 64).length / 4 := by rw [List.length_drop]; omega
  rw [wordsN_eq, wordsN_eq, e, List.range_add, List.map_append, List.map_map]
  refine congr (congrArg _ (List.map_congr_left fun t ht => ?_)) (List.map_congr_left fun t _ => ?_)
  · rw [be_block m t (List.mem_range.1 ht)]
  · show (be m (16 + t)).toNat = _
    rw [be_drop]
/-- The blocks that are left. -/
noncomputable def blkN (n : Nat) : List Nat → List Nat → List Nat :=
  Nat.rec (motive := fun _ => List Nat → List Nat → List Nat) (fun st _ => st)
    (fun _ ih st ws =>
      match st with
      | [a, b, c, d, e, f, g, h] =>
        match ws with
        | w0 :: w1 :: w2 :: w3 :: w4 :: w5 :: w6 :: w7 :: w8 :: w9 :: w10 :: w11 :: w12 :: w13 :: w14 :: w15 :: r =>
          match cmpN a b c d e f g h w0 w1 w2 w3 w4 w5 w6 w7 w8 w9 w10 w11 w12 w13 w14 w15 with
          | [a', b', c', d', e', f', g', h'] => cond (Nat.ble (Nat.add (Nat.add (Nat.add a' b') (Nat.add c' d')) (Nat.add (Nat.add e' f') (Nat.add g' h'))) (nat_lit 34359738368)) (ih [a', b', c', d', e', f', g', h'] r) []
          | _ => []
        | _ => []
      | _ => []) n
theorem blkN_succ (n : Nat) (a b c d e f g h : Nat) (w0 w1 w2 w3 w4 w5 w6 w7 w8 w9 w10 w11 w12 w13 w14 w15 : Nat) (r : List Nat) (s : S8) (hs : cmpN a b c d e f g h w0 w1 w2 w3 w4 w5 w6 w7 w8 w9 w10 w11 w12 w13 w14 w15 = natL s) : blkN (n + 1) [a, b, c, d, e, f, g, h] (w0 :: w1 :: w2 :: w3 :: w4 :: w5 :: w6 :: w7 :: w8 :: w9 :: w10 :: w11 :: w12 :: w13 :: w14 :: w15 :: r) = blkN n (natL s) r := by
  have e : blkN (n + 1) [a, b, c, d, e, f, g, h] (w0 :: w1 :: w2 :: w3 :: w4 :: w5 :: w6 :: w7 :: w8 :: w9 :: w10 :: w11 :: w12 :: w13 :: w14 :: w15 :: r) = (match cmpN a b c d e f g h w0 w1 w2 w3 w4 w5 w6 w7 w8 w9 w10 w11 w12 w13 w14 w15 with
          | [a', b', c', d', e', f', g', h'] => cond (Nat.ble (Nat.add (Nat.add (Nat.add a' b') (Nat.add c' d')) (Nat.add (Nat.add e' f') (Nat.add g' h'))) (nat_lit 34359738368)) (blkN n [a', b', c', d', e', f', g', h'] r) []
          | _ => []) := rfl
  rw [e, hs]
  unfold natL
  simp only []
  have hb : Nat.ble (Nat.add (Nat.add (Nat.add s.a.toNat s.b.toNat) (Nat.add s.c.toNat s.d.toNat)) (Nat.add (Nat.add s.e.toNat s.f.toNat) (Nat.add s.g.toNat s.h.toNat))) (nat_lit 34359738368) = true := by
    have := s.a.isLt; have := s.b.isLt; have := s.c.isLt; have := s.d.isLt; have := s.e.isLt; have := s.f.isLt; have := s.g.isLt; have := s.h.isLt
    refine Nat.ble_eq_true_of_le ?_
    show s.a.toNat + s.b.toNat + (s.c.toNat + s.d.toNat) + (s.e.toNat + s.f.toNat + (s.g.toNat + s.h.toNat)) ≤ 34359738368
    omega
  rw [hb]; rfl
theorem blk_nat (m : List UInt8) : ∀ (n j : Nat), 64 * (j + n) ≤ m.length → blkN n (natL (blocks m j)) (wordsN (toN (m.drop (64 * j)))) = natL (blocks m (j + n)) := by
  intro n
  induction n with
  | zero => intro j _; rfl
  | succ n ih =>
    intro j hj
    have h2 := words_block (m.drop (64 * j)) (by rw [List.length_drop]; omega)
    have h3 := cmp_nat (blocks m j) ((m.drop (64 * j)).take 64)
    have h4 := ih (j + 1) (by omega)
    rw [h2]
    have e : blkN (n + 1) (natL (blocks m j)) ((List.range 16).map (fun t => (be ((m.drop (64 * j)).take 64) t).toNat) ++ wordsN (toN ((m.drop (64 * j)).drop 64))) = blkN n (natL (compress (blocks m j) ((m.drop (64 * j)).take 64))) (wordsN (toN ((m.drop (64 * j)).drop 64))) :=
      blkN_succ n _ _ _ _ _ _ _ _ _ _ _ _ _ _ _ _ _ _ _ _ _ _ _ _ _ _ h3
    rw [e, List.drop_drop, show 64 * j + 64 = 64 * (j + 1) by omega, show j + (n + 1) = j + 1 + n by omega]
    exact h4
def b4N (x : Nat) : List Nat := [Nat.mod (Nat.shiftRight x (nat_lit 24)) (nat_lit 256), Nat.mod (Nat.shiftRight x (nat_lit 16)) (nat_lit 256), Nat.mod (Nat.shiftRight x (nat_lit 8)) (nat_lit 256), Nat.mod x (nat_lit 256)]
def bytesN : List Nat → List Nat
  | x :: r => b4N x ++ bytesN r
  | [] => []
theorem lo8_nat (x : W) : (lo8 x).toNat = x.toNat % 256 := by unfold lo8; rw [UInt8.toNat_ofNat']
theorem bytes4_nat (x : W) : toN (bytes4 x) = b4N x.toNat := by
  unfold bytes4 b4N toN
  rw [List.map_cons, List.map_cons, List.map_cons, List.map_cons, List.map_nil, lo8_nat, lo8_nat, lo8_nat, lo8_nat, BitVec.toNat_ushiftRight, BitVec.toNat_ushiftRight, BitVec.toNat_ushiftRight]; rfl
theorem bytesN_eq (s : S8) : toN s.bytes = bytesN (natL s) := by
  have e : s.bytes = bytes4 s.a ++ (bytes4 s.b ++ (bytes4 s.c ++ (bytes4 s.d ++ (bytes4 s.e ++ (bytes4 s.f ++ (bytes4 s.g ++ (bytes4 s.h ++ []))))))) := by
    unfold S8.bytes S8.list
    simp only [List.flatMap_cons, List.flatMap_nil]
  have ha : ∀ a b : List UInt8, toN (a ++ b) = toN a ++ toN b := fun a b => List.map_append
  rw [e, ha, ha, ha, ha, ha, ha, ha, ha, bytes4_nat, bytes4_nat, bytes4_nat, bytes4_nat, bytes4_nat, bytes4_nat, bytes4_nat, bytes4_nat]; rfl
def initN : List Nat := [nat_lit 1779033703, nat_lit 3144134277, nat_lit 1013904242, nat_lit 2773480762, nat_lit 1359893119, nat_lit 2600822924, nat_lit 528734635, nat_lit 1541459225]
theorem init_nat : natL init = initN := by decide +kernel
def be8N (n : Nat) : List Nat := [Nat.mod (Nat.shiftRight n 56) 256, Nat.mod (Nat.shiftRight n 48) 256, Nat.mod (Nat.shiftRight n 40) 256, Nat.mod (Nat.shiftRight n 32) 256, Nat.mod (Nat.shiftRight n 24) 256, Nat.mod (Nat.shiftRight n 16) 256, Nat.mod (Nat.shiftRight n 8) 256, Nat.mod n 256]
def tailN (n : Nat) : List Nat := 128 :: (List.replicate (noughts n) 0 ++ be8N (8 * n))
theorem tail_nat (n : Nat) : toN (tail n) = tailN n := by
  unfold toN tail tailN
  rw [List.map_cons, List.map_append, List.map_replicate]
  refine congrArg _ (congrArg _ ?_)
  unfold be8 be8N
  simp only [List.range_succ, List.range_zero, List.nil_append, List.map_cons, List.map_nil, List.cons_append, UInt8.toNat_ofNat']
  rfl
def padN (m : List Nat) : List Nat := m ++ tailN m.length
theorem pad_nat (m : List UInt8) : toN (pad m) = padN (toN m) := by
  unfold pad padN
  have e : (toN m).length = m.length := List.length_map _
  rw [e, ← tail_nat]
  exact List.map_append
/-- SHA-256 of bytes as numbers. -/
noncomputable def shaN (m : List Nat) : List Nat := (fun p => bytesN (blkN (p.length / 64) initN (wordsN p))) (padN m)
theorem sha_nat (m : List UInt8) : toN (sha m) = shaN (toN m) := by
  unfold shaN sha
  rw [bytesN_eq, ← pad_nat]
  have h := blk_nat (pad m) ((pad m).length / 64) 0 (by omega)
  rw [Nat.mul_zero, List.drop_zero, Nat.zero_add] at h
  have e : (toN (pad m)).length = (pad m).length := by unfold toN; rw [List.length_map]
  show bytesN _ = bytesN (blkN ((toN (pad m)).length / 64) initN (wordsN (toN (pad m))))
  rw [e, ← init_nat]
  exact congrArg bytesN h.symm
theorem toN_inj {a b : List UInt8} (h : toN a = toN b) : a = b := (List.map_inj_right (fun x y hxy => UInt8.toNat_inj.1 hxy)).1 h
end Sh
end Go.Proofs.YtgonidjajmjniaaDoor
